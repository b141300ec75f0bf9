/- Plain mathematics: the first part of a split text is what stands ahead of its first separator. No program is spoken of here. -/
import Derived.Test.YthpkabjgjgmnoaaDoorSplit
import Derived.Lib.IndexLaws
import Derived.Lib.IndexMore
import Derived.Lib.Strings
namespace Go.Proofs.YthpkabjgjgmnoaaDoor
set_option linter.unusedVariables false
theorem index_one (l : List UInt8) (c : UInt8) : Lib.index l [c] = Lib.indexByte l c := by
  induction l with
  | nil => rfl
  | cons b t ih =>
    have e : List.isPrefixOf [c] (b :: t) = (b == c) := by
      simp only [List.isPrefixOf, Bool.and_true]
      rw [Bool.eq_iff_iff, beq_iff_eq, beq_iff_eq]; exact ⟨Eq.symm, Eq.symm⟩
    rw [Lib.index, Lib.indexByte, e, ih]
/-- What stands ahead of the first separator. -/
def firstPart (s : ByteArray) (c : UInt8) : ByteArray := ⟨(Lib.cut s.data.toList [c]).1.toArray⟩
theorem firstPart_list (s : ByteArray) (c : UInt8) : (firstPart s c).data.toList = (Lib.cut s.data.toList [c]).1 := by unfold firstPart; simp
theorem take_of_mem (l : List UInt8) (c : UInt8) (j : Nat) (hj : l[j]? = some c) (hn : c ∉ l.take j) : (Lib.cut l [c]).1 = l.take j := by
  have hi : Lib.indexByte l c = j := by
    have hg := Lib.indexByte_ge l c
    by_cases e : Lib.indexByte l c = -1
    · exact absurd hj (Lib.indexByte_none e j)
    · obtain ⟨o, ho⟩ : ∃ o : Nat, Lib.indexByte l c = o := ⟨(Lib.indexByte l c).toNat, by omega⟩
      obtain ⟨h1, h2⟩ := Lib.indexByte_some ho
      rcases Nat.lt_trichotomy o j with h | h | h
      · exact absurd (List.mem_of_getElem? (by rw [List.getElem?_take, if_pos h]; exact h1)) hn
      · omega
      · exact absurd hj (h2 j h)
  unfold Lib.cut
  rw [index_one, hi, if_pos (by omega)]
  simp
theorem take_of_none (l : List UInt8) (c : UInt8) (hn : c ∉ l) : (Lib.cut l [c]).1 = l := by
  have hg := Lib.indexByte_ge l c
  have hi : ¬ 0 ≤ Lib.indexByte l c := by
    intro h
    obtain ⟨o, ho⟩ : ∃ o : Nat, Lib.indexByte l c = o := ⟨(Lib.indexByte l c).toNat, by omega⟩
    exact hn (List.mem_of_getElem? (Lib.indexByte_some ho).1)
  unfold Lib.cut
  rw [index_one, if_neg hi]
theorem first_none (s : ByteArray) (c : UInt8) : c ∉ (firstPart s c).data.toList := by
  rw [firstPart_list]
  by_cases hn : c ∈ s.data.toList
  · have hg := Lib.indexByte_ge s.data.toList c
    by_cases e : Lib.indexByte s.data.toList c = -1
    · obtain ⟨k, hk⟩ := List.getElem?_of_mem hn
      exact absurd hk (Lib.indexByte_none e k)
    · obtain ⟨o, ho⟩ : ∃ o : Nat, Lib.indexByte s.data.toList c = o := ⟨(Lib.indexByte s.data.toList c).toNat, by omega⟩
      obtain ⟨h1, h2⟩ := Lib.indexByte_some ho
      unfold Lib.cut
      rw [index_one, ho, if_pos (by omega)]
      intro hm
      obtain ⟨k, hk⟩ := List.getElem?_of_mem hm
      rw [List.getElem?_take] at hk
      split at hk
      · exact h2 k (by simpa using ‹k < _›) hk
      · cases hk
  · rw [take_of_none _ _ hn]; exact hn
theorem first_le (s : ByteArray) (c : UInt8) : (firstPart s c).size ≤ s.size := by
  have : (firstPart s c).size = (Lib.cut s.data.toList [c]).1.length := by rw [← firstPart_list]; simp
  rw [this]
  have hl : s.data.toList.length = s.size := by simp
  unfold Lib.cut
  split
  · simp only [List.length_take]; omega
  · simp only []; omega
theorem extract_take (s : ByteArray) (j : Nat) : (s.extract 0 j).data.toList = s.data.toList.take j := by rw [Lib.extract_data]; simp
theorem split_head (s : ByteArray) (c : UInt8) (k : Nat) (hk : k ≤ s.size) :
    ((splitSt s c k).1 = [] ∧ (splitSt s c k).2 = 0 ∧ c ∉ s.data.toList.take k) ∨ (∃ r, (splitSt s c k).1 = firstPart s c :: r) := by
  induction k with
  | zero => left; simp [splitSt]
  | succ k ih =>
    have hlt : k < s.size := by omega
    by_cases hc : s[k] = c
    · rw [splitSt_yes s c k hlt hc]
      right
      rcases ih (by omega) with ⟨h1, h2, h3⟩ | ⟨r, hr⟩
      · refine ⟨[], ?_⟩
        show (splitSt s c k).1 ++ [s.extract (splitSt s c k).2 k] = _
        rw [h1, h2]
        have : s.extract 0 k = firstPart s c := by
          apply ByteArray.ext; apply Array.toList_inj.1
          rw [extract_take, firstPart_list, take_of_mem _ c k _ h3]
          rw [List.getElem?_eq_getElem (by simpa using hlt)]
          exact congrArg some hc
        rw [this]; rfl
      · exact ⟨r ++ [s.extract (splitSt s c k).2 k], by show (splitSt s c k).1 ++ _ = _; rw [hr]; rfl⟩
    · rw [splitSt_no s c k hlt hc]
      rcases ih (by omega) with ⟨h1, h2, h3⟩ | h
      · left
        refine ⟨h1, h2, ?_⟩
        rw [take_snoc s k hlt, List.mem_append, List.mem_singleton]
        rintro (h | h)
        · exact h3 h
        · exact hc h.symm
      · exact .inr h
theorem splitAll_head (s : ByteArray) (c : UInt8) : ∃ r, splitAll s c = firstPart s c :: r := by
  unfold splitAll
  rcases split_head s c s.size (Nat.le_refl _) with ⟨h1, h2, h3⟩ | ⟨r, hr⟩
  · refine ⟨[], ?_⟩
    rw [h1, h2]
    have : s.extract 0 s.size = firstPart s c := by
      apply ByteArray.ext; apply Array.toList_inj.1
      rw [extract_take, firstPart_list, take_all]
      rw [take_all] at h3
      rw [take_of_none _ _ h3]
    rw [this]; rfl
  · exact ⟨r ++ [_], by rw [hr]; rfl⟩
end Go.Proofs.YthpkabjgjgmnoaaDoor
