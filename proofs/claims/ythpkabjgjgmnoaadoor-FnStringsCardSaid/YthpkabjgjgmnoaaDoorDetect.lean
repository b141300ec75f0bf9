/- Plain mathematics: a sealed text with one byte changed is no sealed text. No program is spoken of here. -/
import Derived.Test.YthpkabjgjgmnoaaDoorVerify
import Derived.Test.YthpkabjgjgmnoaaDoorDig2
namespace Go.Proofs.YthpkabjgjgmnoaaDoor
set_option linter.unusedVariables false
theorem sumStep_inj (h1 h2 : Int) (c : UInt8) (a1 : 0 ≤ h1) (b1 : h1 ≤ 999978) (a2 : 0 ≤ h2) (b2 : h2 ≤ 999978) (e : sumStep h1 c = sumStep h2 c) : h1 = h2 := by
  unfold sumStep at e; omega
theorem sumStep_byte (h : Int) (c d : UInt8) (hne : c ≠ d) : sumStep h c ≠ sumStep h d := by
  have h1 := c.toNat_lt
  have h2 := d.toNat_lt
  have h3 : c.toNat ≠ d.toNat := fun e => hne (UInt8.toNat_inj.1 e)
  unfold sumStep; omega
theorem foldl_inj (l : List UInt8) : ∀ h1 h2 : Int, 0 ≤ h1 → h1 ≤ 999978 → 0 ≤ h2 → h2 ≤ 999978 → l.foldl sumStep h1 = l.foldl sumStep h2 → h1 = h2 := by
  induction l with
  | nil => intro h1 h2 _ _ _ _ e; exact e
  | cons c t ih =>
    intro h1 h2 a1 b1 a2 b2 e
    have p := sumStep_bd h1 c
    have q := sumStep_bd h2 c
    exact sumStep_inj h1 h2 c a1 b1 a2 b2 (ih _ _ p.1 p.2 q.1 q.2 e)
theorem sumL_changed (A B : List UInt8) (c d : UInt8) (hne : c ≠ d) : sumL (A ++ c :: B) ≠ sumL (A ++ d :: B) := by
  unfold sumL
  rw [List.foldl_append, List.foldl_append, List.foldl_cons, List.foldl_cons]
  intro e
  have p := sumStep_bd (A.foldl sumStep 7) c
  have q := sumStep_bd (A.foldl sumStep 7) d
  exact sumStep_byte _ c d hne (foldl_inj B _ _ p.1 p.2 q.1 q.2 e)
theorem split_unique (c : UInt8) : ∀ (A A' B B' : List UInt8), c ∉ A → c ∉ A' → A ++ c :: B = A' ++ c :: B' → A = A' ∧ B = B'
  | [], [], B, B', _, _, e => by simpa using e
  | [], x :: A', B, B', _, h, e => by
    rw [List.nil_append, List.cons_append, List.cons.injEq] at e
    exact absurd (by rw [e.1]; simp) h
  | x :: A, [], B, B', h, _, e => by
    rw [List.nil_append, List.cons_append, List.cons.injEq] at e
    exact absurd (by rw [← e.1]; simp) h
  | x :: A, y :: A', B, B', h, h', e => by
    rw [List.cons_append, List.cons_append, List.cons.injEq] at e
    have := split_unique c A A' B B' (fun m => h (by simp [m])) (fun m => h' (by simp [m])) e.2
    exact ⟨by rw [e.1, this.1], this.2⟩
theorem itoa_no35 (n : Int) : (35 : UInt8) ∉ Lib.itoa n := by
  intro h
  rcases itoa_bytes n _ h with h | h
  · unfold isDig at h; exact absurd h.1 (by decide)
  · exact absurd h (by decide)
theorem itoa_inj (a b : Int) (ha : 0 ≤ a) (hb : 0 ≤ b) (e : Lib.itoa a = Lib.itoa b) : a = b := by
  have h1 := itoa_val a
  have h2 := itoa_val b
  rw [e] at h1
  omega
theorem sealB_list (s : ByteArray) : (sealB s).data.toList = s.data.toList ++ 35 :: Lib.itoa (sumL s.data.toList) := by
  unfold sealB
  rw [ByteArray.data_append, ByteArray.data_append, Array.toList_append, Array.toList_append, numB_list]
  simp
/-- A single changed byte is detected. -/
theorem detect (x y' : ByteArray) (k : Nat) (c : UInt8) (hx : canSeal x) (hk : k < (sealB x).data.toList.length) (hc : (sealB x).data.toList[k] ≠ c) (hy : y'.data.toList = (sealB x).data.toList.set k c) : ¬ sealedB y' := by
  rintro ⟨_, hs⟩
  have hF := first_none y' 35
  have e0 : y'.data.toList = (firstPart y' 35).data.toList ++ 35 :: Lib.itoa (sumL (firstPart y' 35).data.toList) := by rw [← sealB_list, hs]
  obtain ⟨F, hFd⟩ : ∃ F, F = (firstPart y' 35).data.toList := ⟨_, rfl⟩
  rw [← hFd] at hF e0
  have hX := hx.2.1
  rw [hy, sealB_list] at e0
  have hlen : (sealB x).data.toList.length = x.data.toList.length + 1 + (Lib.itoa (sumL x.data.toList)).length := by rw [sealB_list]; simp; omega
  have hcx : (x.data.toList ++ 35 :: Lib.itoa (sumL x.data.toList))[k]? ≠ some c := by
    rw [← sealB_list, List.getElem?_eq_getElem hk]
    intro e; exact hc (Option.some.inj e)
  obtain ⟨X, hXd⟩ : ∃ X, X = x.data.toList := ⟨_, rfl⟩
  rw [← hXd] at hX e0 hlen hcx
  have bX := sumL_bd X
  have bF := sumL_bd F
  rcases Nat.lt_trichotomy k X.length with h | h | h
  · rw [List.set_append_left _ _ h] at e0
    by_cases h35 : c = 35
    · subst h35
      rw [List.set_eq_take_append_cons_drop, if_pos h, List.append_assoc, List.cons_append] at e0
      have := split_unique 35 _ _ _ _ (fun m => hX (List.mem_of_mem_take m)) hF e0
      exact itoa_no35 (sumL F) (by rw [← this.2]; simp)
    · have hn : (35 : UInt8) ∉ X.set k c := by
        intro m
        rcases List.mem_or_eq_of_mem_set m with m | m
        · exact hX m
        · exact h35 m.symm
      have := split_unique 35 _ _ _ _ hn hF e0
      have hsum := itoa_inj _ _ bX.1 bF.1 this.2
      rw [← this.1, List.set_eq_take_append_cons_drop, if_pos h] at hsum
      have hX2 : X = X.take k ++ X[k] :: X.drop (k + 1) := by
        rw [List.getElem_cons_drop, List.take_append_drop]
      have hne : X[k] ≠ c := by
        intro e
        exact hcx (by rw [List.getElem?_append_left h, List.getElem?_eq_getElem h, e])
      exact sumL_changed (X.take k) (X.drop (k + 1)) X[k] c hne (by rw [← hX2]; exact hsum)
  · rw [List.set_append_right _ _ (by omega), show k - X.length = 0 by omega, List.set_cons_zero] at e0
    have hc35 : c ≠ 35 := by
      intro e
      exact hcx (by rw [List.getElem?_append_right (by omega), show k - X.length = 0 by omega, e]; rfl)
    have hm : (35 : UInt8) ∈ X ++ c :: Lib.itoa (sumL X) := by rw [e0]; simp
    rcases List.mem_append.1 hm with m | m
    · exact hX m
    · rcases List.mem_cons.1 m with m | m
      · exact hc35 m.symm
      · exact itoa_no35 _ m
  · obtain ⟨j, hj⟩ : ∃ j, k - X.length = j + 1 := ⟨k - X.length - 1, by omega⟩
    rw [List.set_append_right _ _ (by omega), hj, List.set_cons_succ] at e0
    have := split_unique 35 _ _ _ _ hX hF e0
    rw [← this.1] at this
    have hjl : j < (Lib.itoa (sumL X)).length := by omega
    have hne : (Lib.itoa (sumL X))[j]? ≠ some c := by
      intro e
      exact hcx (by rw [List.getElem?_append_right (by omega), hj]; exact e)
    have h2 : ((Lib.itoa (sumL X)).set j c)[j]? = some c := by rw [List.getElem?_set_self hjl]
    rw [this.2] at h2
    exact hne h2
/-- What sealing gives is sealed, and its first part is the text. -/
theorem sealed_first (x : ByteArray) (hx : canSeal x) : firstPart (sealB x) 35 = x ∧ sealedB (sealB x) := by
  have hf : firstPart (sealB x) 35 = x := by
    apply ByteArray.ext; apply Array.toList_inj.1
    rw [firstPart_list, sealB_list]
    rw [take_of_mem _ 35 x.data.toList.length (by rw [List.getElem?_append_right (by omega)]; simp) (by rw [List.take_left]; exact hx.2.1)]
    rw [List.take_left]
  exact ⟨hf, hx.2.2, by rw [hf]⟩
end Go.Proofs.YthpkabjgjgmnoaaDoor
