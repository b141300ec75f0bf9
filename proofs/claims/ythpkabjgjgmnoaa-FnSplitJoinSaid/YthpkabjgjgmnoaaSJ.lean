/- Plain mathematics: the parts of a text, joined, are the text; and the order of texts is a strict one. -/
import Derived.Test.YthpkabjgjgmnoaaSplitImpl
import Derived.Test.YthpkabjgjgmnoaaJoin
namespace Go.Proofs.Ythpkabjgjgmnoaa
set_option linter.unusedVariables false
theorem sepC_B (sep : ByteArray) : sepC sep = sepB sep := rfl
theorem ext_list (s : ByteArray) (a b : Nat) : (s.extract a b).data.toList = (s.data.toList.drop a).take (b - a) := Lib.extract_data s a b
theorem join_last (xs : List (List UInt8)) (sep x y : List UInt8) : Lib.join (xs ++ [x ++ y]) sep = Lib.join (xs ++ [x]) sep ++ y := by
  by_cases h : xs = []
  · subst h; simp [Lib.join_one]
  · rw [join_snoc xs sep (x ++ y) h, join_snoc xs sep x h]; simp
/-- What has been split off ahead of a place, and the piece behind it, joined, are the text up to there. -/
theorem split_join (s : ByteArray) (c : UInt8) (k : Nat) (hk : k ≤ s.size) :
    Lib.join ((splitSt s c k).1.map (·.data.toList) ++ [(s.data.toList.drop (splitSt s c k).2).take (k - (splitSt s c k).2)]) [c] = s.data.toList.take k ∧
    (∀ x ∈ (splitSt s c k).1, c ∉ x.data.toList) ∧ c ∉ (s.data.toList.drop (splitSt s c k).2).take (k - (splitSt s c k).2) := by
  induction k with
  | zero => refine ⟨by simp [splitSt, Lib.join_one], by simp [splitSt], by simp [splitSt]⟩
  | succ k ih =>
    obtain ⟨h1, h2, h3⟩ := ih (by omega)
    obtain ⟨l1, l2⟩ := splitSt_le s c k
    have hlt : k < s.size := by omega
    have hll : s.data.toList.length = s.size := by simp
    have hat : s.data.toList[k]'(by omega) = s[k] := rfl
    by_cases hc : s[k] = c
    · rw [splitSt_yes s c k hlt hc]
      refine ⟨?_, ?_, by simp⟩
      · show Lib.join (((splitSt s c k).1 ++ [s.extract (splitSt s c k).2 k]).map (·.data.toList) ++ [_]) [c] = _
        rw [List.map_append, List.map_singleton, ext_list, join_snoc _ _ _ (by simp), h1, take_snoc s k hlt, hc]
        simp
      · intro x hx
        rcases List.mem_append.1 hx with hx | hx
        · exact h2 x hx
        · rw [List.mem_singleton] at hx; subst hx; rw [ext_list]; exact h3
    · rw [splitSt_no s c k hlt hc]
      have e : (s.data.toList.drop (splitSt s c k).2).take (k + 1 - (splitSt s c k).2) = (s.data.toList.drop (splitSt s c k).2).take (k - (splitSt s c k).2) ++ [s[k]] := by
        rw [show k + 1 - (splitSt s c k).2 = (k - (splitSt s c k).2) + 1 by omega, List.take_succ_eq_append_getElem (by rw [List.length_drop]; omega)]
        congr 2
        rw [List.getElem_drop]
        have : (splitSt s c k).2 + (k - (splitSt s c k).2) = k := by omega
        simp only [this]; rfl
      refine ⟨?_, h2, ?_⟩
      · rw [e, join_last, h1, take_snoc s k hlt]
      · rw [e, List.mem_append, List.mem_singleton]
        rintro (m | m)
        · exact h3 m
        · exact hc m.symm
theorem splitAll_join (s sep : ByteArray) (h1 : sep.size = 1) (h4 : s.size ≤ 4000) : joinB (splitAll s (sepC sep)) sep = s ∧ canJoin (splitAll s (sepC sep)) sep := by
  obtain ⟨a, b, c⟩ := split_join s (sepC sep) s.size (Nat.le_refl _)
  obtain ⟨l1, l2⟩ := splitSt_le s (sepC sep) s.size
  have hsep : sep.data.toList = [sepC sep] := by
    have := sepB_one sep h1
    rw [sepC_B]
    conv => lhs; rw [this]
  have hj : joinB (splitAll s (sepC sep)) sep = s := by
    apply ba_ext
    unfold joinB splitAll
    rw [hsep, List.map_append, List.map_singleton, ext_list]
    simp only []
    rw [a, take_all]
  have hns : noSep (splitAll s (sepC sep)) sep := by
    intro x hx
    unfold splitAll at hx
    rcases List.mem_append.1 hx with hx | hx
    · exact b x hx
    · rw [List.mem_singleton] at hx; subst hx; rw [ext_list]; exact c
  have hne : splitAll s (sepC sep) ≠ [] := by unfold splitAll; simp
  have hz := joinB_size (splitAll s (sepC sep)) sep h1 _ (Nat.le_refl _)
  rw [List.take_length, hj] at hz
  exact ⟨hj, h1, hne, hns, by omega⟩
/-- The order of texts. -/
def lessB (a b : ByteArray) : Bool := Op.bytesLess a.toList b.toList
theorem bytesLess_asym (x y : List UInt8) (h : Op.bytesLess x y = true) : Op.bytesLess y x = false := by
  induction x generalizing y with
  | nil => cases y <;> simp_all [Op.bytesLess]
  | cons a x ih =>
    cases y with
    | nil => simp [Op.bytesLess] at h
    | cons b y =>
      simp only [Op.bytesLess, Bool.or_eq_true, Bool.and_eq_true, decide_eq_true_eq, beq_iff_eq, Bool.or_eq_false_iff, Bool.and_eq_false_iff, decide_eq_false_iff_not] at h ⊢
      rcases h with h | ⟨h1, h2⟩
      · exact ⟨by have := UInt8.lt_iff_toNat_lt.1 h; intro k; have := UInt8.lt_iff_toNat_lt.1 k; omega, Or.inl (by have := UInt8.lt_iff_toNat_lt.1 h; apply Bool.eq_false_iff.2; intro k; rw [beq_iff_eq] at k; subst k; omega)⟩
      · exact ⟨by subst h1; intro k; have := UInt8.lt_iff_toNat_lt.1 k; omega, Or.inr (ih y h2)⟩
theorem less_asym (a b : ByteArray) (h : lessB a b = true) : lessB b a = false := bytesLess_asym _ _ h
end Go.Proofs.Ythpkabjgjgmnoaa
