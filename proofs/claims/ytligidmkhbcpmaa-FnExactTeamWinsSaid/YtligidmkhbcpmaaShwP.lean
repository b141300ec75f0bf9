/- What throws have shown: its value, its parts, overlaps. -/
import Derived.Test.YtligidmkhbcpmaaUrnG
import Derived.Laws.CopyOwn
namespace Go.Proofs.Ytligidmkhbcpmaa
open Go.RowKit
set_option linter.unusedVariables false
/-- The cells of what throws have shown. -/
def shL (zs : List Int) : List Int := [(zs.length : Int), zs.getD 0 0, zs.getD 1 0, zs.getD 2 0, zs.getD 3 0, zs.getD 4 0, zs.getD 5 0, zs.getD 6 0, zs.getD 7 0]
def shA (zs : List Int) : Array Value := #[.int .i64 (zs.length : Int), .int .i64 (zs.getD 0 0), .int .i64 (zs.getD 1 0), .int .i64 (zs.getD 2 0), .int .i64 (zs.getD 3 0), .int .i64 (zs.getD 4 0), .int .i64 (zs.getD 5 0), .int .i64 (zs.getD 6 0), .int .i64 (zs.getD 7 0)]
def shV (zs : List Int) : Value := .agg (shA zs)
/-- The overlaps of a list with another one, of the first k numbers. -/
def ovK (a b : List Int) : Nat → List Int
  | 0 => []
  | k + 1 => if a.drop (a.length - (k + 1)) = b.take (k + 1) then ovK a b k ++ [(k : Int) + 1] else ovK a b k
theorem ovK_len (a b : List Int) : ∀ k, (ovK a b k).length ≤ k
  | 0 => Nat.le_refl 0
  | k + 1 => by
      have := ovK_len a b k
      unfold ovK
      split
      · simp; omega
      · omega
theorem ovK_bd (a b : List Int) : ∀ k, ∀ z ∈ ovK a b k, 1 ≤ z ∧ z ≤ k
  | 0, z, hz => by cases hz
  | k + 1, z, hz => by
      unfold ovK at hz
      split at hz
      · rcases List.mem_append.1 hz with h | h
        · have := ovK_bd a b k z h; omega
        · simp at h; subst h; omega
      · have := ovK_bd a b k z hz; omega
def ovL (a b : List Int) : List Int := ovK a b (min a.length b.length)
/-- The sum of powers for the first j overlaps. -/
def wsK (f : Nat) (L : List Int) : Nat → Nat
  | 0 => 0
  | j + 1 => wsK f L j + f ^ (L.getD j 0).toNat
def wsN (f : Nat) (a b : List Int) : Nat := wsK f (ovL a b) (ovL a b).length
/-- All are faces of a die. -/
def facB (f : Int) (zs : List Int) : Bool := zs.all fun z => decide (0 ≤ z ∧ z ≤ f - 1)
def outF (f : Int) (z : Int) : Bool := !decide (0 ≤ z ∧ z ≤ f - 1)
theorem any_outF (f : Int) (zs : List Int) : zs.any (outF f) = !facB f zs := by
  unfold facB outF
  rw [List.not_all_eq_any_not]
theorem getD_memF {zs : List Int} {i : Nat} (hi : i < zs.length) : zs.getD i 0 ∈ zs := by
  rw [List.getD_eq_getElem?_getD, List.getElem?_eq_getElem hi]; exact List.getElem_mem hi
theorem fac_at {f : Int} {zs : List Int} (h : facB f zs = true) {i : Nat} (hi : i < zs.length) : 0 ≤ zs.getD i 0 ∧ zs.getD i 0 ≤ f - 1 := by
  unfold facB at h
  rw [List.all_eq_true] at h
  exact of_decide_eq_true (h _ (getD_memF hi))
theorem fac_no {f : Int} {zs : List Int} {i : Nat} (hi : i < zs.length) (h : ¬ (0 ≤ zs.getD i 0 ∧ zs.getD i 0 ≤ f - 1)) : facB f zs = false := by
  cases hb : facB f zs
  · rfl
  · exact absurd (fac_at hb hi) h
theorem fac_yes {f : Int} {zs : List Int} (h : ∀ i, i < zs.length → 0 ≤ zs.getD i 0 ∧ zs.getD i 0 ≤ f - 1) : facB f zs = true := by
  unfold facB
  rw [List.all_eq_true]
  intro z hz
  obtain ⟨i, hi, e⟩ := List.getElem_of_mem hz
  have := h i hi
  rw [List.getD_eq_getElem?_getD, List.getElem?_eq_getElem hi] at this
  rw [decide_eq_true_iff, ← e]; exact this
def facOk (f : Int) (zs : List Int) : Bool := facB f zs && decide (1 ≤ f ∧ f ≤ 6)
def wdOk (f : Int) (zs : List Int) : Bool := decide (1 ≤ zs.length ∧ zs.length ≤ 6) && facOk f zs
/-- Two lists agree in their first i numbers. -/
theorem same_ext {a b : List Int} (hl : a.length = b.length) (h : ∀ i, i < a.length → a.getD i 0 = b.getD i 0) : a = b := by
  apply List.ext_getElem hl
  intro i h1 h2
  have := h i h1
  rw [List.getD_eq_getElem?_getD, List.getElem?_eq_getElem h1, List.getD_eq_getElem?_getD, List.getElem?_eq_getElem h2] at this
  exact this
theorem take_getD (zs : List Int) (k i : Nat) (h : i < k) : (zs.take k).getD i 0 = zs.getD i 0 := by
  rw [List.getD_eq_getElem?_getD, List.getElem?_take, if_pos h, List.getD_eq_getElem?_getD]
theorem drop_getD (zs : List Int) (k i : Nat) : (zs.drop k).getD i 0 = zs.getD (k + i) 0 := by
  rw [List.getD_eq_getElem?_getD, List.getElem?_drop, List.getD_eq_getElem?_getD]
theorem sh_inj {a b : List Int} (ha : a.length ≤ 8) (hb : b.length ≤ 8) (h : shL a = shL b) : a = b := by
  simp only [shL, List.cons.injEq] at h
  obtain ⟨h0, h1, h2, h3, h4, h5, h6, h7, h8, _⟩ := h
  refine same_ext (by omega) fun i hi => ?_
  obtain rfl | rfl | rfl | rfl | rfl | rfl | rfl | rfl : i = 0 ∨ i = 1 ∨ i = 2 ∨ i = 3 ∨ i = 4 ∨ i = 5 ∨ i = 6 ∨ i = 7 := by omega
  all_goals assumption
end Go.Proofs.Ytligidmkhbcpmaa
