/- The sum of an inner node is that of its children. No program is spoken of here. -/
import Derived.Test.YtligidmkhbcpmacSumP
import Derived.Test.YtligidmkhbcpmacPassP
import Derived.Test.YtligidmkhbcpmacFracP
namespace Go.Proofs.Ytligidmkhbcpmac
set_option linter.unusedVariables false
def kidL (ps V : List Int) (x : Nat) : List Int := (List.range ps.length).map fun y => if ps.getD y 0 = (x : Int) then V.getD y 0 else 0
theorem kidL_len (ps V : List Int) (x : Nat) : (kidL ps V x).length = ps.length := by simp [kidL]
theorem kidL_at {ps V : List Int} {x y : Nat} (hy : y < ps.length) : (kidL ps V x).getD y 0 = if ps.getD y 0 = (x : Int) then V.getD y 0 else 0 := by
  rw [List.getD_eq_getElem?_getD, List.getElem?_eq_getElem (by rw [kidL_len]; exact hy)]
  simp [kidL]
/-- A node that has given its number keeps it. -/
theorem upL_kept {ps L : List Int} (hp : ParOk ps) {y : Nat} (hy : y < ps.length) : ∀ d m, ps.length ≤ y + m + 1 → m + d + 1 ≤ ps.length → (upL ps L (m + d)).getD y 0 = (upL ps L m).getD y 0 := by
  intro d
  induction d with
  | zero => intro m _ _; rfl
  | succ d ih =>
    intro m h1 h2
    rw [show m + (d + 1) = (m + d) + 1 by omega, upL]
    obtain ⟨x, hx⟩ : ∃ x, x = ps.length - 1 - (m + d) := ⟨_, rfl⟩
    rw [← hx]
    unfold addUp
    rw [if_neg (by omega), getD_set_other (by have := par_lt hp (x := x) (by omega) (by omega); omega)]
    exact ih m h1 (by omega)
theorem upL_fin {ps L : List Int} (hp : ParOk ps) {y m : Nat} (hy : y < ps.length) (h1 : ps.length ≤ y + m + 1) (h2 : m + 1 ≤ ps.length) : (upL ps L m).getD y 0 = (upL ps L (ps.length - 1)).getD y 0 := by
  have := upL_kept (L := L) hp hy (ps.length - 1 - m) m h1 (by omega)
  rw [show m + (ps.length - 1 - m) = ps.length - 1 by omega] at this
  exact this.symm
theorem upL_kids {ps L : List Int} (h0 : ps.getD 0 0 = -1) (hp : ParOk ps) (hl : L.length = ps.length) {x : Nat} (hx : x < ps.length) :
    ∀ m, m + 1 ≤ ps.length → (upL ps L m).getD x 0 = L.getD x 0 + (sumTo (kidL ps (upL ps L (ps.length - 1)) x) ps.length - sumTo (kidL ps (upL ps L (ps.length - 1)) x) (ps.length - m)) := by
  intro m
  induction m with
  | zero => intro _; rw [upL, Nat.sub_zero]; omega
  | succ m ih =>
    intro hm
    have h1 := ih (by omega)
    obtain ⟨z, hz⟩ : ∃ z, ps.length - m = z + 1 := ⟨ps.length - m - 1, by omega⟩
    have hz2 : ps.length - 1 - m = z := by omega
    rw [hz, sumTo, kidL_at (by omega)] at h1
    rw [upL, hz2, show ps.length - (m + 1) = z by omega]
    unfold addUp
    rw [if_neg (by omega)]
    obtain ⟨q1, q2⟩ := hp z (by omega) (by omega)
    have hfz := upL_fin (L := L) hp (y := z) (m := m) (by omega) (by omega) (by omega)
    by_cases he : ps.getD z 0 = (x : Int)
    · rw [if_pos he] at h1
      rw [he, Int.toNat_natCast, getD_set_same (by rw [upL_len, hl]; exact hx), hfz]
      omega
    · rw [if_neg he] at h1
      rw [getD_set_other (by omega)]
      omega
theorem up_kids {ps L : List Int} (h0 : ps.getD 0 0 = -1) (hp : ParOk ps) (hl : L.length = ps.length) (h1 : 1 ≤ ps.length) {x : Nat} (hx : x < ps.length) :
    (upL ps L (ps.length - 1)).getD x 0 = L.getD x 0 + sumTo (kidL ps (upL ps L (ps.length - 1)) x) ps.length := by
  have h := upL_kids h0 hp hl hx (ps.length - 1) (by omega)
  rw [show ps.length - (ps.length - 1) = 0 + 1 by omega, sumTo, kidL_at (by omega), h0, if_neg (by omega), sumTo] at h
  omega
theorem sumTo_mono {L : List Int} : ∀ n k, k ≤ n → (∀ y, y < n → 0 ≤ L.getD y 0) → sumTo L k ≤ sumTo L n := by
  intro n
  induction n with
  | zero => intro k hk _; obtain rfl : k = 0 := by omega
            exact Int.le_refl _
  | succ n ih =>
    intro k hk h
    rcases Nat.lt_or_ge k (n + 1) with h' | h'
    · have h1 := ih k (by omega) (fun y hy => h y (by omega))
      have h2 := h n (by omega)
      rw [sumTo]; omega
    · obtain rfl : k = n + 1 := by omega
      exact Int.le_refl _
theorem le_sumTo {L : List Int} {n j : Nat} (hj : j < n) (h : ∀ y, y < n → 0 ≤ L.getD y 0) : L.getD j 0 ≤ sumTo L n := by
  have h1 := sumTo_mono n (j + 1) (by omega) h
  rw [sumTo] at h1
  have := sumTo_nonneg (L := L) j (fun y hy => h y (by omega))
  omega
theorem upL_nonneg {ps L : List Int} (hL : ∀ y, 0 ≤ L.getD y 0) : ∀ m y, 0 ≤ (upL ps L m).getD y 0 := by
  intro m
  induction m with
  | zero => exact hL
  | succ m ih =>
    intro y
    rw [upL]
    unfold addUp
    split
    · exact ih y
    · by_cases h : (ps.getD (ps.length - 1 - m) 0).toNat = y
      · subst h
        by_cases hl : (ps.getD (ps.length - 1 - m) 0).toNat < (upL ps L m).length
        · rw [getD_set_same hl]
          have a := ih (ps.getD (ps.length - 1 - m) 0).toNat
          have b := ih (ps.length - 1 - m)
          omega
        · rw [List.set_eq_of_length_le (by omega)]; exact ih _
      · rw [getD_set_other h]; exact ih y
theorem getD_all {L : List Int} (h : ∀ y, y < L.length → 0 ≤ L.getD y 0) (y : Nat) : 0 ≤ L.getD y 0 := by
  rcases Nat.lt_or_ge y L.length with h' | h'
  · exact h y h'
  · rw [List.getD_eq_getElem?_getD, List.getElem?_eq_none h']; exact Int.le_refl _
theorem sums_kids {ps ws : List Int} (g : Good ps ws) {x : Nat} (hx : x < ps.length) : (sumsT ps ws).getD x 0 = ws.getD x 0 + sumTo (kidL ps (sumsT ps ws) x) ps.length := up_kids g.root (ParOk.of g) g.nw g.n1 hx
theorem sums_nonneg {ps ws : List Int} (g : Good ps ws) (y : Nat) : 0 ≤ (sumsT ps ws).getD y 0 := upL_nonneg (getD_all (fun y hy => (g.w_bd (by rw [← g.nw]; exact hy)).1)) _ y
/-- Each sum is greater than 0. -/
theorem sums_pos {ps ws : List Int} (g : Good ps ws) : ∀ x, x < ps.length → 0 < (sumsT ps ws).getD x 0 := by
  refine down_ind g (fun x hx hl => ?_) (fun x y hx hy h0 e ih => ?_)
  · have h1 := sums_kids g hx
    have h2 := (g.leaf x hx hl).1
    have h3 := sumTo_nonneg (L := kidL ps (sumsT ps ws) x) ps.length (fun y hy => by
      rw [kidL_at hy]; split
      · exact sums_nonneg g y
      · exact Int.le_refl _)
    omega
  · have h1 := sums_kids g hx
    have h2 := (g.w_bd hx).1
    have hpy := g.par y h0 hy
    have h3 := le_sumTo (L := kidL ps (sumsT ps ws) x) hy (fun y hy => by
      rw [kidL_at hy]; split
      · exact sums_nonneg g y
      · exact Int.le_refl _)
    rw [kidL_at hy, if_pos (by omega)] at h3
    omega
/-- Small numbers make fractions. -/
theorem small_inB {a b : Int} (ha : -1000000000 ≤ a ∧ a ≤ 1000000000) (hb : 0 < b ∧ b ≤ 1000000) : inB (cutN a b) (cutD a b) = true := by
  have h1 := abs_cutN (a := a) (b := b) 1000000000 ha (by omega)
  have h2 := cutD_le (a := a) hb.1
  have h3 := cutD_pos (a := a) hb.1
  exact decide_eq_true (by omega)
end Go.Proofs.Ytligidmkhbcpmac
