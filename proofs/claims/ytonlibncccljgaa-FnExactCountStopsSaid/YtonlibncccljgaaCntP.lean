/- The number of stoppings, told by lists. No program is spoken of here. -/
import Derived.Test.YtonlibncccljgaaKidSum
namespace Go.Proofs.Ytonlibncccljgaa
set_option linter.unusedVariables false
/-- What a node's number is when it is reached: an inner node has one more. -/
def cntV (ps L : List Int) (x : Nat) : Int := if leafB ps x = true then L.getD x 0 else L.getD x 0 + 1
/-- Node x is reached, and multiplies its parent. -/
def cntUp (ps L : List Int) (x : Nat) : List Int :=
  if x = 0 then L.set x (cntV ps L x) else (L.set x (cntV ps L x)).set (ps.getD x 0).toNat ((L.set x (cntV ps L x)).getD (ps.getD x 0).toNat 0 * cntV ps L x)
def cntL (ps : List Int) : Nat → List Int
  | 0 => List.replicate ps.length 1
  | m + 1 => cntUp ps (cntL ps m) (ps.length - 1 - m)
theorem cntUp_len (ps L : List Int) (x : Nat) : (cntUp ps L x).length = L.length := by
  unfold cntUp; split <;> simp
theorem cntL_len (ps : List Int) (m : Nat) : (cntL ps m).length = ps.length := by
  induction m with
  | zero => simp [cntL]
  | succ m ih => rw [cntL, cntUp_len, ih]
/-- The product of the first k numbers. -/
def prodTo (L : List Int) : Nat → Int
  | 0 => 1
  | k + 1 => prodTo L k * L.getD k 0
theorem prodTo_congr {L M : List Int} : ∀ k, (∀ y, y < k → L.getD y 0 = M.getD y 0) → prodTo L k = prodTo M k := by
  intro k
  induction k with
  | zero => intro _; rfl
  | succ k ih => intro h; rw [prodTo, prodTo, ih (fun y hy => h y (by omega)), h k (by omega)]
theorem prodTo_mul {L : List Int} {p : Nat} {v : Int} (hp : p < L.length) : ∀ k, p < k → prodTo (L.set p (L.getD p 0 * v)) k = prodTo L k * v := by
  intro k
  induction k with
  | zero => intro h; omega
  | succ k ih =>
    intro h
    rw [prodTo, prodTo]
    by_cases e : p = k
    · subst e
      rw [getD_set_same hp, prodTo_congr (M := L) p (fun y hy => getD_set_other (by omega)), Int.mul_assoc]
    · rw [getD_set_other e, ih (by omega), Int.mul_assoc, Int.mul_assoc, Int.mul_comm v]
theorem prodTo_pos {L : List Int} : ∀ k, (∀ y, y < k → 1 ≤ L.getD y 0) → 1 ≤ prodTo L k := by
  intro k
  induction k with
  | zero => intro _; exact Int.le_refl _
  | succ k ih =>
    intro h
    have h1 := ih (fun y hy => h y (by omega))
    have h2 := h k (by omega)
    rw [prodTo]
    have h3 := Int.mul_le_mul h1 h2 (by omega) (by omega)
    omega
theorem le_prodTo {L : List Int} : ∀ k, (∀ y, y < k → 1 ≤ L.getD y 0) → ∀ j, j < k → L.getD j 0 ≤ prodTo L k := by
  intro k
  induction k with
  | zero => intro _ j hj; omega
  | succ k ih =>
    intro h j hj
    have h1 := prodTo_pos k (fun y hy => h y (by omega))
    have h2 := h k (by omega)
    rw [prodTo]
    by_cases e : j = k
    · subst e
      have h3 := Int.mul_le_mul_of_nonneg_right h1 (show (0 : Int) ≤ L.getD j 0 by omega)
      omega
    · have h4 := ih (fun y hy => h y (by omega)) j (by omega)
      have h3 := Int.mul_le_mul_of_nonneg_left h2 (show (0 : Int) ≤ prodTo L k by omega)
      omega
theorem cntV_bd {ps L : List Int} {x : Nat} (h : 1 ≤ L.getD x 0) : 1 ≤ cntV ps L x ∧ cntV ps L x ≤ 2 * L.getD x 0 := by
  unfold cntV; split <;> omega
/-- Twice the power. -/
theorem two_pow (m : Nat) : (2 : Int) ^ (m + 1) = 2 * 2 ^ m := by rw [Int.pow_succ, Int.mul_comm]
theorem pow_mono {a b : Nat} (h : a ≤ b) : (2 : Int) ^ a ≤ 2 ^ b := by
  induction b with
  | zero => obtain rfl : a = 0 := by omega
            exact Int.le_refl _
  | succ b ih =>
    rcases Nat.lt_or_ge a (b + 1) with h' | h'
    · have h1 := ih (by omega)
      have h2 : (0 : Int) < 2 ^ b := Int.pow_pos (by omega)
      rw [two_pow]; omega
    · obtain rfl : a = b + 1 := by omega
      exact Int.le_refl _
/-- The numbers of the nodes that are not reached yet, and their product. -/
theorem cntL_bd {ps : List Int} (hp : ParOk ps) : ∀ m, m ≤ ps.length → (∀ y, y < ps.length - m → 1 ≤ (cntL ps m).getD y 0) ∧ prodTo (cntL ps m) (ps.length - m) ≤ 2 ^ m := by
  intro m
  induction m with
  | zero =>
    intro _
    have h1 : ∀ y, y < ps.length → (cntL ps 0).getD y 0 = 1 := fun y hy => by
      rw [cntL, List.getD_eq_getElem?_getD, List.getElem?_replicate, if_pos hy]; rfl
    refine ⟨fun y hy => by rw [h1 y (by omega)]; omega, ?_⟩
    have h2 : ∀ k, k ≤ ps.length → prodTo (cntL ps 0) k = 1 := by
      intro k
      induction k with
      | zero => intro _; rfl
      | succ k ih => intro h; rw [prodTo, ih (by omega), h1 k (by omega)]; rfl
    rw [h2 _ (by omega)]
    exact Int.le_refl _
  | succ m ih =>
    intro hm
    obtain ⟨h1, h2⟩ := ih (by omega)
    obtain ⟨x, hx⟩ : ∃ x, ps.length - m = x + 1 := ⟨ps.length - m - 1, by omega⟩
    have hx2 : ps.length - 1 - m = x := by omega
    rw [hx] at h1 h2
    rw [show ps.length - (m + 1) = x by omega, cntL, hx2]
    obtain ⟨v1, v2⟩ := cntV_bd (ps := ps) (h1 x (by omega))
    have hl := cntL_len ps m
    obtain ⟨L, hL⟩ : ∃ L, L = cntL ps m := ⟨_, rfl⟩
    rw [← hL] at h1 h2 v1 v2 hl ⊢
    have h3 := prodTo_pos x (fun y hy => h1 y (by omega))
    unfold cntUp
    rw [prodTo] at h2
    by_cases h0 : x = 0
    · subst h0
      rw [if_pos rfl]
      refine ⟨fun y hy => by omega, ?_⟩
      rw [prodTo]
      have : (0 : Int) < 2 ^ (m + 1) := Int.pow_pos (show (0 : Int) < 2 by omega)
      omega
    · have hpl := par_lt hp (show 0 < x by omega) (show x < ps.length by omega)
      rw [if_neg h0]
      obtain ⟨v, hv⟩ : ∃ v, v = cntV ps L x := ⟨_, rfl⟩
      obtain ⟨p, hpp⟩ : ∃ p, p = (ps.getD x 0).toNat := ⟨_, rfl⟩
      rw [← hpp] at hpl ⊢
      rw [← hv] at v1 v2 ⊢
      have hc : ∀ y, y < x → (L.set x v).getD y 0 = L.getD y 0 := fun y hy => getD_set_other (by omega)
      refine ⟨fun y hy => ?_, ?_⟩
      · by_cases e : p = y
        · subst e
          rw [getD_set_same (by rw [List.length_set]; omega), hc p hy]
          have := Int.mul_le_mul (h1 p (by omega)) v1 (by omega) (by have := h1 p (by omega); omega)
          omega
        · rw [getD_set_other e, hc y hy]; exact h1 y (by omega)
      · rw [prodTo_mul (by rw [List.length_set]; omega) x hpl, prodTo_congr (M := L) x hc, two_pow]
        have h4 := Int.mul_le_mul_of_nonneg_left v2 (show (0 : Int) ≤ prodTo L x by omega)
        have h5 : prodTo L x * (2 * L.getD x 0) = 2 * (prodTo L x * L.getD x 0) := by rw [← Int.mul_assoc, Int.mul_comm (prodTo L x) 2, Int.mul_assoc]
        omega
/-- The number of a node. -/
def cntF (ps : List Int) (y : Nat) : Int := cntV ps (cntL ps (ps.length - 1 - y)) y
theorem cntL_le {ps : List Int} (hp : ParOk ps) {m y : Nat} (hm : m < ps.length) (hy : y < ps.length - m) : 1 ≤ (cntL ps m).getD y 0 ∧ (cntL ps m).getD y 0 ≤ 2 ^ m := by
  obtain ⟨h1, h2⟩ := cntL_bd hp m (by omega)
  exact ⟨h1 y hy, Int.le_trans (le_prodTo _ h1 y hy) h2⟩
theorem pow24 {m : Nat} (h : m ≤ 24) : (2 : Int) ^ m ≤ 16777216 := by
  have := pow_mono h
  have e : (2 : Int) ^ 24 = 16777216 := by decide
  omega
theorem cntF_bd {ps : List Int} (hp : ParOk ps) (h24 : ps.length ≤ 24) {y : Nat} (hy : y < ps.length) : 1 ≤ cntF ps y ∧ cntF ps y ≤ 16777216 := by
  obtain ⟨h1, h2⟩ := cntL_le hp (m := ps.length - 1 - y) (y := y) (by omega) (by omega)
  obtain ⟨h3, h4⟩ := cntV_bd (ps := ps) h1
  have h5 := pow24 (m := ps.length - 1 - y + 1) (by omega)
  rw [two_pow] at h5
  unfold cntF
  omega
/-- What is in the row of a node that is not reached, told by its children. -/
def facL (ps : List Int) (x : Nat) : List Int := (List.range ps.length).map fun y => if ps.getD y 0 = (x : Int) then cntF ps y else 1
theorem facL_at {ps : List Int} {x y : Nat} (hy : y < ps.length) : (facL ps x).getD y 0 = if ps.getD y 0 = (x : Int) then cntF ps y else 1 := by
  unfold facL
  rw [List.getD_eq_getElem?_getD, List.getElem?_map, List.getElem?_range hy]; rfl
theorem cntL_fac {ps : List Int} (hp : ParOk ps) {x : Nat} : ∀ m, x < ps.length - m → (cntL ps m).getD x 0 * prodTo (facL ps x) (ps.length - m) = prodTo (facL ps x) ps.length := by
  intro m
  induction m with
  | zero =>
    intro hx
    rw [cntL, List.getD_eq_getElem?_getD, List.getElem?_replicate, if_pos (by omega)]
    exact Int.one_mul _
  | succ m ih =>
    intro hx
    have h1 := ih (by omega)
    obtain ⟨z, hz⟩ : ∃ z, ps.length - m = z + 1 := ⟨ps.length - m - 1, by omega⟩
    have hz2 : ps.length - 1 - m = z := by omega
    rw [hz, prodTo, facL_at (by omega)] at h1
    rw [show ps.length - (m + 1) = z by omega, cntL, hz2, ← h1]
    have hF : cntF ps z = cntV ps (cntL ps m) z := by unfold cntF; rw [show ps.length - 1 - z = m by omega]
    unfold cntUp
    rw [if_neg (by omega), ← hF]
    have hpz := hp z (by omega) (by omega)
    have hl := cntL_len ps m
    by_cases e : ps.getD z 0 = (x : Int)
    · rw [if_pos e, e, Int.toNat_natCast, getD_set_same (by rw [List.length_set]; omega), getD_set_other (by omega)]
      rw [Int.mul_assoc, Int.mul_comm (cntF ps z)]
    · rw [if_neg e, getD_set_other (by omega), getD_set_other (by omega), Int.mul_one]
theorem fac_low {ps : List Int} (h0 : ps.getD 0 0 = -1) (hp : ParOk ps) {x : Nat} : ∀ k, k ≤ x + 1 → k ≤ ps.length → prodTo (facL ps x) k = 1 := by
  intro k
  induction k with
  | zero => intro _ _; rfl
  | succ k ih =>
    intro h1 h2
    rw [prodTo, ih (by omega) (by omega), facL_at (by omega), if_neg ?_]
    · rfl
    · intro e
      by_cases hk : k = 0
      · subst hk; rw [h0] at e; omega
      · have := hp k (by omega) (by omega); omega
/-- A node's number when it is reached is the product of those of its children. -/
theorem cntL_kids {ps : List Int} (h0 : ps.getD 0 0 = -1) (hp : ParOk ps) {x : Nat} (hx : x < ps.length) : (cntL ps (ps.length - 1 - x)).getD x 0 = prodTo (facL ps x) ps.length := by
  have h := cntL_fac hp (x := x) (ps.length - 1 - x) (by omega)
  rw [fac_low h0 hp (ps.length - (ps.length - 1 - x)) (by omega) (by omega), Int.mul_one] at h
  exact h
/-- What the model multiplies. -/
def kidP (f : Nat → Int) (L : List Int) : Int := L.foldl (fun a y => a * f y.toNat) 1
theorem kidP_app (f : Nat → Int) (L : List Int) (z : Int) : kidP f (L ++ [z]) = kidP f L * f z.toNat := by
  unfold kidP; rw [List.foldl_append]; rfl
theorem kidP_take (f : Nat → Int) {L : List Int} {k : Nat} (h : k < L.length) : kidP f (L.take (k + 1)) = kidP f (L.take k) * f (L.getD k 0).toNat := by
  rw [List.take_succ_eq_append_getElem h, kidP_app, List.getD_eq_getElem?_getD, List.getElem?_eq_getElem h]; rfl
theorem kidP_nodes (f : Nat → Int) (p : Nat → Bool) (m : Nat) : ∀ n, n ≤ m → kidP f (nodesW p n) = prodTo ((List.range m).map fun y => if p y = true then f y else 1) n := by
  intro n
  induction n with
  | zero => intro _; rfl
  | succ n ih =>
    intro h
    have h1 := ih (by omega)
    have hat : ((List.range m).map fun y => if p y = true then f y else 1).getD n 0 = if p n = true then f n else 1 := by
      rw [List.getD_eq_getElem?_getD, List.getElem?_map, List.getElem?_range (by omega)]; rfl
    rw [prodTo, hat]
    cases hp : p n
    · rw [nodesW_no hp, h1]; simp
    · rw [nodesW_yes hp, kidP_app, h1, Int.toNat_natCast]; simp
theorem cnt_kids {ps : List Int} (h0 : ps.getD 0 0 = -1) (hp : ParOk ps) {x : Nat} (hx : x < ps.length) : (cntL ps (ps.length - 1 - x)).getD x 0 = kidP (cntF ps) (kidsT ps (x : Int)) := by
  rw [cntL_kids h0 hp hx, kidsT_eq, kidP_nodes (cntF ps) _ ps.length _ (Nat.le_refl _)]
  unfold facL
  congr 2
  funext y
  by_cases e : ps.getD y 0 = (x : Int)
  · rw [if_pos e, if_pos (by simpa using e)]
  · rw [if_neg e, if_neg (by simpa using e)]
theorem cntF_kids {ps : List Int} (h0 : ps.getD 0 0 = -1) (hp : ParOk ps) {x : Nat} (hx : x < ps.length) : cntF ps x = if kidsT ps (x : Int) = [] then 1 else kidP (cntF ps) (kidsT ps (x : Int)) + 1 := by
  have e : cntF ps x = cntV ps (cntL ps (ps.length - 1 - x)) x := rfl
  rw [e]
  unfold cntV
  rw [cnt_kids h0 hp hx]
  by_cases hl : leafB ps x = true
  · rw [if_pos hl, if_pos (kidsT_nil.2 hl), kidsT_nil.2 hl]; rfl
  · rw [if_neg hl, if_neg (fun e => hl (kidsT_nil.1 e))]
theorem kidP_bd {f : Nat → Int} {L : List Int} (hb : ∀ z ∈ L, 1 ≤ f z.toNat) : ∀ k, k ≤ L.length → 1 ≤ kidP f (L.take k) ∧ kidP f (L.take k) ≤ kidP f L := by
  intro k hk
  have key : ∀ d k, k + d = L.length → 1 ≤ kidP f (L.take k) → kidP f (L.take k) ≤ kidP f L := by
    intro d
    induction d with
    | zero => intro k e _; rw [List.take_of_length_le (by omega)]; exact Int.le_refl _
    | succ d ih =>
      intro k e h1
      have hlt : k < L.length := by omega
      have h2 := hb (L.getD k 0) (by
        rw [List.getD_eq_getElem?_getD, List.getElem?_eq_getElem hlt]
        exact List.getElem_mem _)
      have h3 := kidP_take f hlt
      have h4 := Int.mul_le_mul_of_nonneg_left h2 (show (0 : Int) ≤ kidP f (L.take k) by omega)
      have h5 := ih (k + 1) (by omega) (by omega)
      omega
  have pos : ∀ k, k ≤ L.length → 1 ≤ kidP f (L.take k) := by
    intro k
    induction k with
    | zero => intro _; exact Int.le_refl _
    | succ k ih =>
      intro h
      have h1 := ih (by omega)
      have h2 := hb (L.getD k 0) (by
        rw [List.getD_eq_getElem?_getD, List.getElem?_eq_getElem (by omega)]
        exact List.getElem_mem _)
      rw [kidP_take f (by omega)]
      have h4 := Int.mul_le_mul h1 h2 (by omega) (by omega)
      omega
  exact ⟨pos k hk, key (L.length - k) k (by omega) (pos k hk)⟩
/-- The model's row behind the m topmost nodes. -/
def manyL (ps : List Int) (m : Nat) : List Int := (List.range ps.length).map fun y => if ps.length - m ≤ y then cntF ps y else 0
theorem manyL_len (ps : List Int) (m : Nat) : (manyL ps m).length = ps.length := by simp [manyL]
theorem manyL_at {ps : List Int} {m y : Nat} (hy : y < ps.length) (h : ps.length - m ≤ y) : (manyL ps m).getD y 0 = cntF ps y := by
  unfold manyL
  rw [List.getD_eq_getElem?_getD, List.getElem?_map, List.getElem?_range hy]
  show (if _ then _ else _) = _
  rw [if_pos h]
theorem manyL_zero (ps : List Int) : manyL ps 0 = List.replicate ps.length 0 := by
  apply List.ext_getElem
  · rw [manyL_len, List.length_replicate]
  · intro i h1 h2
    rw [manyL_len] at h1
    simp only [manyL, List.getElem_map, List.getElem_range, List.getElem_replicate]
    rw [if_neg (by omega)]
theorem manyL_set {ps : List Int} {m x : Nat} (hx : ps.length - m = x + 1) : (manyL ps m).set x (cntF ps x) = manyL ps (m + 1) := by
  apply List.ext_getElem
  · rw [List.length_set, manyL_len, manyL_len]
  · intro i h1 h2
    rw [List.getElem_set]
    simp only [manyL, List.getElem_map, List.getElem_range]
    by_cases h : x = i
    · subst h
      rw [if_pos rfl, if_pos (by omega)]
    · rw [if_neg h]
      by_cases h' : ps.length - m ≤ i
      · rw [if_pos h', if_pos (by omega)]
      · rw [if_neg h', if_neg (by omega)]
/-- The program's answer. -/
theorem cntL_root {ps : List Int} (h1 : 1 ≤ ps.length) : (cntL ps ps.length).getD 0 0 = cntF ps 0 := by
  obtain ⟨m, hm⟩ : ∃ m, ps.length = m + 1 := ⟨ps.length - 1, by omega⟩
  have hl := cntL_len ps m
  have e : ps.length - 1 - m = 0 := by omega
  unfold cntF
  rw [show ps.length - 1 - 0 = m by omega]
  rw [hm, cntL, e]
  unfold cntUp
  rw [if_pos rfl, getD_set_same (by omega)]
end Go.Proofs.Ytonlibncccljgaa
