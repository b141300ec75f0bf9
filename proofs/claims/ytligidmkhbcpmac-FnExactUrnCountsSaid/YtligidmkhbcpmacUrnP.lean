/- Urns, reckoned: two lists of numbers cut against each other. No program is spoken of here. -/
import Derived.Test.YtligidmkhbcpmacWlkP
import Derived.Test.YtligidmkhbcpmacFracP
namespace Go.Proofs.Ytligidmkhbcpmac
set_option linter.unusedVariables false
def prodI : List Int → Int
  | [] => 1
  | x :: xs => x * prodI xs
theorem prod_app : ∀ a b : List Int, prodI (a ++ b) = prodI a * prodI b
  | [], b => by simp [prodI]
  | x :: a, b => by simp [prodI, prod_app a b, Int.mul_assoc]
theorem prod_take (l : List Int) {i : Nat} (h : i < l.length) : prodI (l.take (i + 1)) = prodI (l.take i) * l.getD i 0 := by
  rw [List.take_add_one, prod_app, List.getD_eq_getElem?_getD, List.getElem?_eq_getElem h]
  simp [prodI]
/-- A list's product is that of one number and the others. -/
theorem prod_set : ∀ (l : List Int) (i : Nat), i < l.length → ∃ c, prodI l = c * l.getD i 0 ∧ ∀ y, prodI (l.set i y) = c * y
  | x :: l, 0, _ => ⟨prodI l, by simp [prodI, Int.mul_comm], fun y => by simp [prodI, Int.mul_comm]⟩
  | x :: l, i + 1, h => by
      obtain ⟨c, h1, h2⟩ := prod_set l i (by simpa using h)
      refine ⟨x * c, ?_, fun y => ?_⟩
      · simp only [List.getD_cons_succ, prodI, h1, Int.mul_assoc]
      · simp only [List.set_cons_succ, prodI, h2, Int.mul_assoc]
/-- A number is cut against the first i numbers of a list. -/
def cutK (ts : List Int) (f : Int) : Nat → List Int × Int
  | 0 => (ts, f)
  | i + 1 => ((cutK ts f i).1.set i ((cutK ts f i).1.getD i 0 / gI ((cutK ts f i).1.getD i 0) (cutK ts f i).2), (cutK ts f i).2 / gI ((cutK ts f i).1.getD i 0) (cutK ts f i).2)
theorem getD_set (l : List Int) (i j : Nat) (y : Int) : (l.set i y).getD j 0 = if i = j ∧ j < l.length then y else l.getD j 0 := by
  rw [List.getD_eq_getElem?_getD, List.getElem?_set, List.getD_eq_getElem?_getD]
  by_cases h : i = j
  · subst h
    by_cases h2 : i < l.length
    · simp [h2]
    · simp [h2]
  · simp [h]
theorem dvd_pos {a b : Int} (h : a ∣ b) (hb : 1 ≤ b) (ha : 0 ≤ a) : 1 ≤ a := by
  obtain ⟨c, rfl⟩ := h
  rcases Int.lt_or_le 0 a with h3 | h3
  · omega
  · have : a = 0 := by omega
    subst this; simp at hb
/-- What holds while a number is cut. -/
structure CutOk (ts : List Int) (f : Int) (i : Nat) : Prop where
  len : (cutK ts f i).1.length = ts.length
  nn : ∀ j, 0 ≤ (cutK ts f i).1.getD j 0
  dv : ∀ j, (cutK ts f i).1.getD j 0 ∣ ts.getD j 0
  rest : ∀ j, i ≤ j → (cutK ts f i).1.getD j 0 = ts.getD j 0
  pos : 1 ≤ (cutK ts f i).2
  dvf : (cutK ts f i).2 ∣ f
  cop : ∀ j, j < i → gI ((cutK ts f i).1.getD j 0) (cutK ts f i).2 = 1
  pr : prodI (cutK ts f i).1 * f = prodI ts * (cutK ts f i).2
theorem gI_one_dvd {a b x y : Int} (h : gI a b = 1) (hx : x ∣ a) (hy : y ∣ b) : gI x y = 1 := gI_iff.2 (cop_dvd h hx hy)
theorem ediv_nn {a b : Int} (ha : 0 ≤ a) (hb : 0 < b) : 0 ≤ a / b := Int.ediv_nonneg ha (Int.le_of_lt hb)
theorem cut_ok {ts : List Int} {f : Int} (hts : ∀ j, 0 ≤ ts.getD j 0) (hf : 1 ≤ f) : ∀ i, i ≤ ts.length → CutOk ts f i
  | 0, _ => ⟨rfl, hts, fun j => Int.dvd_refl _, fun _ _ => rfl, hf, Int.dvd_refl _, fun j hj => by omega, rfl⟩
  | i + 1, hi => by
      have h := cut_ok hts hf i (by omega)
      obtain ⟨h1, h2, h3, h4, h5, h6, h7, h8⟩ := h
      have e1 : (cutK ts f (i + 1)).1 = (cutK ts f i).1.set i ((cutK ts f i).1.getD i 0 / gI ((cutK ts f i).1.getD i 0) (cutK ts f i).2) := rfl
      have e2 : (cutK ts f (i + 1)).2 = (cutK ts f i).2 / gI ((cutK ts f i).1.getD i 0) (cutK ts f i).2 := rfl
      obtain ⟨c, c1, c2⟩ := prod_set (cutK ts f i).1 i (by omega)
      generalize (cutK ts f i).1 = L at *
      generalize (cutK ts f i).2 = F at *
      have gp : 0 < gI (L.getD i 0) F := gI_pos (by omega)
      have d1 := gI_dvd_l (L.getD i 0) F
      have d2 := gI_dvd_r (L.getD i 0) F
      have cg := cut_gcd (a := L.getD i 0) (b := F) (by omega)
      have dn : L.getD i 0 / gI (L.getD i 0) F ∣ L.getD i 0 := dvd_cutN _ _
      have dd : F / gI (L.getD i 0) F ∣ F := dvd_cutD _ _
      unfold cutN cutD at cg
      have nn := ediv_nn (h2 i) gp
      have np := ediv_nn (show 0 ≤ F by omega) gp
      have cx : (L.getD i 0 / gI (L.getD i 0) F) * F = L.getD i 0 * (F / gI (L.getD i 0) F) := cut_cross (L.getD i 0) F
      generalize L.getD i 0 / gI (L.getD i 0) F = X at *
      generalize F / gI (L.getD i 0) F = Y at *
      refine ⟨by rw [e1]; simp [h1], fun j => ?_, fun j => ?_, fun j hj => ?_, ?_, ?_, fun j hj => ?_, ?_⟩
      · rw [e1, getD_set]; split
        · exact nn
        · exact h2 j
      · rw [e1, getD_set]; split
        · rename_i hh; obtain ⟨rfl, _⟩ := hh; exact Int.dvd_trans dn (h3 i)
        · exact h3 j
      · rw [e1, getD_set, if_neg (by omega)]; exact h4 j (by omega)
      · rw [e2]; exact dvd_pos dd h5 np
      · rw [e2]; exact Int.dvd_trans dd h6
      · rw [e1, e2, getD_set]; split
        · exact cg
        · rename_i hh
          have hji : j < i := by
            rcases Nat.lt_or_ge j i with h9 | h9
            · exact h9
            · exact absurd ⟨by omega, by omega⟩ hh
          exact gI_one_dvd (h7 j hji) (Int.dvd_refl _) dd
      · rw [e1, e2, c2]
        rw [c1] at h8
        have fp : F ≠ 0 := by omega
        apply Int.eq_of_mul_eq_mul_right fp
        calc c * X * f * F = c * (X * F) * f := by rw [Int.mul_assoc (c * X), Int.mul_comm f F, ← Int.mul_assoc, Int.mul_assoc c X F]
          _ = (c * L.getD i 0 * f) * Y := by rw [cx]; grind
          _ = prodI ts * F * Y := by rw [h8]
          _ = prodI ts * Y * F := by grind
/-- The first k numbers F are cut against a list, one after the other: the list, and the product of what is left of the numbers. -/
def urK (ts : List Int) (F : Nat → Int) : Nat → List Int × Int
  | 0 => (ts, 1)
  | k + 1 => ((cutK (urK ts F k).1 (F k) ts.length).1, (urK ts F k).2 * (cutK (urK ts F k).1 (F k) ts.length).2)
def prodN (F : Nat → Int) : Nat → Int
  | 0 => 1
  | k + 1 => prodN F k * F k
structure UrOk (ts : List Int) (F : Nat → Int) (k : Nat) : Prop where
  len : (urK ts F k).1.length = ts.length
  nn : ∀ j, 0 ≤ (urK ts F k).1.getD j 0
  dv : ∀ j, (urK ts F k).1.getD j 0 ∣ ts.getD j 0
  pos : 1 ≤ (urK ts F k).2
  cop : ∀ j, j < ts.length → gI ((urK ts F k).1.getD j 0) (urK ts F k).2 = 1
  pr : prodI (urK ts F k).1 * prodN F k = prodI ts * (urK ts F k).2
theorem gI_mul {a x y : Int} (h1 : gI a x = 1) (h2 : gI a y = 1) : gI a (x * y) = 1 := by
  rw [gI_iff] at *
  rw [Int.natAbs_mul]
  exact Nat.Coprime.mul_right h1 h2
theorem gI_comm (a b : Int) : gI a b = gI b a := by unfold gI; rw [Int.gcd_comm]
theorem gI_one_r (a : Int) : gI a 1 = 1 := by unfold gI; simp
theorem gI_prod {b : Int} : ∀ l : List Int, (∀ j, j < l.length → gI (l.getD j 0) b = 1) → gI (prodI l) b = 1
  | [], _ => by unfold gI prodI; simp
  | x :: l, h => by
      have h1 := h 0 (by simp)
      have h2 := gI_prod l (fun j hj => by have := h (j + 1) (by simpa using hj); simpa using this)
      rw [gI_comm] at h1 h2 ⊢
      exact gI_mul (by simpa using h1) h2
theorem one_le_mul {a b : Int} (ha : 1 ≤ a) (hb : 1 ≤ b) : 1 ≤ a * b := by
  have := Int.mul_le_mul ha hb (by omega) (by omega)
  omega
theorem ur_ok {ts : List Int} {F : Nat → Int} (hts : ∀ j, 0 ≤ ts.getD j 0) (hF : ∀ k, 1 ≤ F k) : ∀ k, UrOk ts F k
  | 0 => ⟨rfl, hts, fun j => Int.dvd_refl _, Int.le_refl 1, fun j _ => gI_one_r _, rfl⟩
  | k + 1 => by
      obtain ⟨h1, h2, h3, h5, h7, h8⟩ := ur_ok hts hF k
      have C := cut_ok h2 (hF k) ts.length (by omega)
      have e1 : (urK ts F (k + 1)).1 = (cutK (urK ts F k).1 (F k) ts.length).1 := rfl
      have e2 : (urK ts F (k + 1)).2 = (urK ts F k).2 * (cutK (urK ts F k).1 (F k) ts.length).2 := rfl
      obtain ⟨g1, g2, g3, g4, g5, g6, g7, g8⟩ := C
      generalize (urK ts F k).1 = L at *
      generalize (urK ts F k).2 = B at *
      rw [← e1] at g1 g2 g3 g7 g8
      generalize (cutK L (F k) ts.length).2 = Y at *
      refine ⟨by omega, g2, fun j => Int.dvd_trans (g3 j) (h3 j), ?_, fun j hj => ?_, ?_⟩
      · rw [e2]; exact one_le_mul h5 g5
      · rw [e2]; exact gI_mul (gI_one_dvd (h7 j hj) (g3 j) (Int.dvd_refl _)) (g7 j hj)
      · rw [e2]
        show prodI (urK ts F (k + 1)).1 * (prodN F k * F k) = _
        calc prodI (urK ts F (k + 1)).1 * (prodN F k * F k) = (prodI (urK ts F (k + 1)).1 * F k) * prodN F k := by grind
          _ = (prodI L * prodN F k) * Y := by rw [g8]; grind
          _ = prodI ts * (B * Y) := by rw [h8]; grind
theorem ur_mono {ts : List Int} {F : Nat → Int} (hts : ∀ j, 0 ≤ ts.getD j 0) (hF : ∀ k, 1 ≤ F k) {k n : Nat} (h : k ≤ n) : (urK ts F k).2 ≤ (urK ts F n).2 := by
  induction n with
  | zero => rw [Nat.le_zero.1 h]; exact Int.le_refl _
  | succ n ih =>
    by_cases hk : k = n + 1
    · rw [hk]; exact Int.le_refl _
    · have h1 := ih (by omega)
      have o := ur_ok hts hF n
      have C := (cut_ok o.nn (hF n) ts.length (by rw [o.len]; exact Nat.le_refl _)).pos
      have e2 : (urK ts F (n + 1)).2 = (urK ts F n).2 * (cutK (urK ts F n).1 (F n) ts.length).2 := rfl
      have := Int.mul_le_mul (Int.le_refl (urK ts F n).2) C (by omega) (by have := o.pos; omega)
      omega
theorem prodN_pos {F : Nat → Int} (hF : ∀ k, 1 ≤ F k) : ∀ n, 1 ≤ prodN F n
  | 0 => Int.le_refl 1
  | n + 1 => one_le_mul (prodN_pos hF n) (hF n)
/-- Behind all numbers the products are in lowest terms. -/
theorem ur_cut {ts : List Int} {F : Nat → Int} (hts : ∀ j, 0 ≤ ts.getD j 0) (hF : ∀ k, 1 ≤ F k) (n : Nat) :
    cutN (prodI ts) (prodN F n) = prodI (urK ts F n).1 ∧ cutD (prodI ts) (prodN F n) = (urK ts F n).2 := by
  have o := ur_ok hts hF n
  have p := prodN_pos hF n
  refine cut_unique (by omega) (by have := o.pos; omega) (gI_prod _ (fun j hj => o.cop j (by rw [← o.len]; exact hj))) ?_
  rw [o.pr]
/-- The same the other way round: the list is what a quotient has below. -/
theorem ur_cut2 {ts : List Int} {F : Nat → Int} (hts : ∀ j, j < ts.length → 1 ≤ ts.getD j 0) (hF : ∀ k, 1 ≤ F k) (n : Nat) (hp : 1 ≤ prodI ts) (hq : 1 ≤ prodI (urK ts F n).1) :
    cutN (prodN F n) (prodI ts) = (urK ts F n).2 ∧ cutD (prodN F n) (prodI ts) = prodI (urK ts F n).1 := by
  have hts0 : ∀ j, 0 ≤ ts.getD j 0 := fun j => by
    rcases Nat.lt_or_ge j ts.length with h | h
    · have := hts j h; omega
    · rw [List.getD_eq_getElem?_getD, List.getElem?_eq_none h]; exact Int.le_refl 0
  have o := ur_ok hts0 hF n
  refine cut_unique (by omega) (by omega) (by rw [gI_comm]; exact gI_prod _ (fun j hj => o.cop j (by rw [← o.len]; exact hj))) ?_
  rw [Int.mul_comm, o.pr, Int.mul_comm]
theorem prod_pos : ∀ l : List Int, (∀ j, j < l.length → 1 ≤ l.getD j 0) → 1 ≤ prodI l
  | [], _ => Int.le_refl 1
  | x :: l, h => one_le_mul (by simpa using h 0 (by simp)) (prod_pos l (fun j hj => by simpa using h (j + 1) (by simpa using hj)))
theorem ur_posl {ts : List Int} {F : Nat → Int} (hts : ∀ j, j < ts.length → 1 ≤ ts.getD j 0) (hF : ∀ k, 1 ≤ F k) (n j : Nat) (hj : j < ts.length) : 1 ≤ (urK ts F n).1.getD j 0 := by
  have hts0 : ∀ j, 0 ≤ ts.getD j 0 := fun j => by
    rcases Nat.lt_or_ge j ts.length with h | h
    · have := hts j h; omega
    · rw [List.getD_eq_getElem?_getD, List.getElem?_eq_none h]; exact Int.le_refl 0
  have o := ur_ok hts0 hF n
  exact dvd_pos (o.dv j) (hts j hj) (o.nn j)
theorem prod_zero : ∀ (l : List Int) (j : Nat), j < l.length → l.getD j 0 = 0 → prodI l = 0
  | x :: l, 0, _, h => by simp at h; simp [prodI, h]
  | x :: l, j + 1, hj, h => by rw [prodI, prod_zero l j (by simpa using hj) (by simpa using h), Int.mul_zero]
/-- Rising products. -/
def risI (x e : Int) : Nat → Int
  | 0 => 1
  | k + 1 => risI x e k * (x + (k : Int) * e)
def trI (x y e : Int) (n r : Nat) : Int := (chN n r : Nat) * risI x e r * risI y e (n - r)
def suI (x y e : Int) (n : Nat) : Nat → Int
  | 0 => 0
  | k + 1 => suI x y e n k + trI x y e n k
set_option maxRecDepth 100000 in
theorem pascal : ∀ n, n < 11 → ∀ r, r < 12 → chN (n + 1) (r + 1) = chN n r + chN n (r + 1) := by decide +kernel
set_option maxRecDepth 100000 in
theorem ch_over : ∀ n, n < 12 → chN n (n + 1) = 0 := by decide +kernel
theorem ris_nn {x e : Int} (hx : 0 ≤ x) (he : 0 ≤ e) : ∀ k, 0 ≤ risI x e k
  | 0 => by simp [risI]
  | k + 1 => Int.mul_nonneg (ris_nn hx he k) (Int.add_nonneg hx (Int.mul_nonneg (by omega) he))
theorem tr_nn {x y e : Int} (hx : 0 ≤ x) (hy : 0 ≤ y) (he : 0 ≤ e) (n r : Nat) : 0 ≤ trI x y e n r :=
  Int.mul_nonneg (Int.mul_nonneg (by omega) (ris_nn hx he r)) (ris_nn hy he _)
theorem tr_step {x y e : Int} {n r : Nat} (hn : n < 11) (hr : r ≤ n) : trI x y e (n + 1) (r + 1) = trI x y e n r * (x + (r : Int) * e) + trI x y e n (r + 1) * (y + ((n : Int) - (r + 1)) * e) := by
  unfold trI
  rw [pascal n hn r (by omega), show n + 1 - (r + 1) = n - r by omega]
  by_cases h : r = n
  · subst h
    rw [ch_over r (by omega), Nat.add_zero]
    simp only [risI, Int.natCast_zero, Int.zero_mul, Int.add_zero]
    grind
  · obtain ⟨m, hm⟩ : ∃ m, n - r = m + 1 := ⟨n - r - 1, by omega⟩
    rw [hm, show n - (r + 1) = m by omega]
    have hm2 : ((n : Int) - (r + 1)) = (m : Int) := by omega
    rw [hm2]
    have a1 : risI x e (r + 1) = risI x e r * (x + (r : Int) * e) := rfl
    have a2 : risI y e (m + 1) = risI y e m * (y + (m : Int) * e) := rfl
    rw [a1, a2, Int.natCast_add]
    generalize risI x e r = A
    generalize risI y e m = B
    generalize ((chN n r : Nat) : Int) = C1
    generalize ((chN n (r + 1) : Nat) : Int) = C2
    grind
theorem ch_zero (n : Nat) : chN n 0 = 1 := rfl
theorem su_step {x y e : Int} {n : Nat} (hn : n < 11) : ∀ k, k ≤ n + 1 → suI x y e (n + 1) (k + 1) = suI x y e n k * (x + y + (n : Int) * e) + trI x y e n k * (y + ((n : Int) - k) * e)
  | 0, _ => by
      show (0 : Int) + trI x y e (n + 1) 0 = (0 : Int) * _ + _
      have a2 : risI y e (n + 1) = risI y e n * (y + (n : Int) * e) := rfl
      unfold trI
      rw [ch_zero, ch_zero, show n + 1 - 0 = n + 1 from rfl, show n - 0 = n from rfl, a2]
      simp only [Int.natCast_zero, Int.sub_zero]
      generalize risI y e n = B
      generalize risI x e 0 = A
      grind
  | k + 1, h => by
      have ih := su_step (x := x) (y := y) (e := e) hn k (by omega)
      have e1 : suI x y e (n + 1) (k + 1 + 1) = suI x y e (n + 1) (k + 1) + trI x y e (n + 1) (k + 1) := rfl
      have e2 : suI x y e n (k + 1) = suI x y e n k + trI x y e n k := rfl
      rw [e1, ih, e2, tr_step hn (by omega)]
      have hk : ((k + 1 : Nat) : Int) = (k : Int) + 1 := by omega
      rw [hk]
      generalize suI x y e n k = S
      generalize trI x y e n k = T
      generalize trI x y e n (k + 1) = U
      grind
theorem su_all {x y e : Int} : ∀ n, n < 12 → suI x y e n (n + 1) = risI (x + y) e n
  | 0, _ => by simp [suI, trI, risI, chN]
  | n + 1, h => by
      have ih := su_all (x := x) (y := y) (e := e) n (by omega)
      rw [su_step (by omega) (n + 1) (by omega), ih]
      have z : trI x y e n (n + 1) = 0 := by unfold trI; rw [ch_over n (by omega)]; simp
      rw [z]
      show _ = risI (x + y) e n * (x + y + (n : Int) * e)
      rw [Int.zero_mul, Int.add_zero]
theorem tr_le_su {x y e : Int} (hx : 0 ≤ x) (hy : 0 ≤ y) (he : 0 ≤ e) (n : Nat) {r : Nat} : ∀ k, r < k → trI x y e n r ≤ suI x y e n k ∧ 0 ≤ suI x y e n k
  | 0, h => by omega
  | k + 1, h => by
      have t := tr_nn hx hy he n k
      have e2 : suI x y e n (k + 1) = suI x y e n k + trI x y e n k := rfl
      by_cases hk : r = k
      · subst hk
        have s : ∀ j, 0 ≤ suI x y e n j := fun j => by
          induction j with
          | zero => exact Int.le_refl 0
          | succ j ih => have := tr_nn hx hy he n j; show 0 ≤ suI x y e n j + trI x y e n j; omega
        have := s r
        omega
      · have := tr_le_su (r := r) hx hy he n k (by omega)
        omega
/-- That of n draws just r are red has a chance of at most 1. -/
theorem tr_le {x y e : Int} (hx : 0 ≤ x) (hy : 0 ≤ y) (he : 0 ≤ e) {n r : Nat} (hn : n < 12) (hr : r ≤ n) : trI x y e n r ≤ risI (x + y) e n := by
  rw [← su_all n hn]
  exact (tr_le_su hx hy he n (n + 1) (by omega)).1
end Go.Proofs.Ytligidmkhbcpmac
