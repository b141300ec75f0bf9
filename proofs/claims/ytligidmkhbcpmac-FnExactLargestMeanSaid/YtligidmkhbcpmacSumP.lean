/- Plain mathematics of sums that go up a tree. No program is spoken of here. -/
import Derived.Test.YtligidmkhbcpmacDepthP
namespace Go.Proofs.Ytligidmkhbcpmac
set_option linter.unusedVariables false
theorem getD_set_same {L : List Int} {j : Nat} {x : Int} (h : j < L.length) : (L.set j x).getD j 0 = x := by
  rw [List.getD_eq_getElem?_getD, List.getElem?_set_self h]; rfl
theorem getD_set_other {L : List Int} {i j : Nat} {x : Int} (h : i ≠ j) : (L.set i x).getD j 0 = L.getD j 0 := by
  rw [List.getD_eq_getElem?_getD, List.getElem?_set_ne h, ← List.getD_eq_getElem?_getD]
/-- Node x gives its number to its parent. -/
def addUp (ps L : List Int) (x : Nat) : List Int := if x = 0 then L else L.set (ps.getD x 0).toNat (L.getD (ps.getD x 0).toNat 0 + L.getD x 0)
/-- The numbers behind the m topmost nodes. -/
def upL (ps L : List Int) : Nat → List Int
  | 0 => L
  | m + 1 => addUp ps (upL ps L m) (ps.length - 1 - m)
theorem addUp_len (ps L : List Int) (x : Nat) : (addUp ps L x).length = L.length := by
  unfold addUp; split <;> simp
theorem upL_len (ps L : List Int) (m : Nat) : (upL ps L m).length = L.length := by
  induction m with
  | zero => rfl
  | succ m ih => rw [upL, addUp_len, ih]
/-- The sum of the first k numbers. -/
def sumTo (L : List Int) : Nat → Int
  | 0 => 0
  | k + 1 => sumTo L k + L.getD k 0
def absTo (L : List Int) : Nat → Int
  | 0 => 0
  | k + 1 => absTo L k + ((L.getD k 0).natAbs : Int)
theorem absTo_nonneg (L : List Int) (k : Nat) : 0 ≤ absTo L k := by
  induction k with
  | zero => simp [absTo]
  | succ k ih => rw [absTo]; omega
theorem absTo_mono (L : List Int) {j k : Nat} (h : j ≤ k) : absTo L j ≤ absTo L k := by
  induction k with
  | zero => obtain rfl : j = 0 := by omega
            exact Int.le_refl _
  | succ k ih =>
    rcases Nat.lt_or_ge j (k + 1) with h' | h'
    · have := ih (by omega); rw [absTo]; omega
    · obtain rfl : j = k + 1 := by omega
      exact Int.le_refl _
theorem abs_le_absTo (L : List Int) {j k : Nat} (h : j < k) : ((L.getD j 0).natAbs : Int) ≤ absTo L k := by
  have h1 := absTo_mono L (show j + 1 ≤ k by omega)
  rw [absTo] at h1
  have := absTo_nonneg L j
  omega
theorem absTo_le {L : List Int} {B : Int} : ∀ k : Nat, (∀ y, y < k → ((L.getD y 0).natAbs : Int) ≤ B) → absTo L k ≤ (k : Int) * B := by
  intro k
  induction k with
  | zero => intro _; simp [absTo]
  | succ k ih =>
    intro h
    have h1 := ih (fun y hy => h y (by omega))
    have h2 := h k (by omega)
    rw [absTo]
    have e : ((k + 1 : Nat) : Int) * B = (k : Int) * B + B := by rw [Int.natCast_add, Int.add_mul]; simp
    omega
theorem sumTo_set (L : List Int) {i : Nat} {x : Int} : ∀ k, i < L.length → sumTo (L.set i x) k = sumTo L k + (if i < k then x - L.getD i 0 else 0) := by
  intro k hi
  induction k with
  | zero => simp [sumTo]
  | succ k ih =>
    rw [sumTo, sumTo, ih]
    by_cases e : i = k
    · subst e
      rw [getD_set_same hi, if_neg (by omega), if_pos (by omega)]; omega
    · rw [getD_set_other e]
      by_cases h : i < k
      · rw [if_pos h, if_pos (by omega)]; omega
      · rw [if_neg h, if_neg (by omega)]; omega
theorem absTo_set (L : List Int) {i : Nat} {x : Int} : ∀ k, i < L.length → absTo (L.set i x) k = absTo L k + (if i < k then ((x.natAbs : Int) - ((L.getD i 0).natAbs : Int)) else 0) := by
  intro k hi
  induction k with
  | zero => simp [absTo]
  | succ k ih =>
    rw [absTo, absTo, ih]
    by_cases e : i = k
    · subst e
      rw [getD_set_same hi, if_neg (by omega), if_pos (by omega)]; omega
    · rw [getD_set_other e]
      by_cases h : i < k
      · rw [if_pos h, if_pos (by omega)]; omega
      · rw [if_neg h, if_neg (by omega)]; omega
/-- What is asked of the parents. -/
def ParOk (ps : List Int) : Prop := ∀ y, 0 < y → y < ps.length → 0 ≤ ps.getD y 0 ∧ ps.getD y 0 < (y : Int)
theorem par_lt {ps : List Int} (hp : ParOk ps) {x : Nat} (h0 : 0 < x) (hx : x < ps.length) : (ps.getD x 0).toNat < x := by
  have := hp x h0 hx; omega
/-- The nodes that have not given their number yet hold all of it. -/
theorem upL_sum {ps L : List Int} (hp : ParOk ps) (hl : L.length = ps.length) : ∀ m, m + 1 ≤ ps.length → sumTo (upL ps L m) (ps.length - m) = sumTo L ps.length := by
  intro m
  induction m with
  | zero => intro _; rfl
  | succ m ih =>
    intro hm
    have h1 := ih (by omega)
    obtain ⟨x, hx⟩ : ∃ x, ps.length - m = x + 1 := ⟨ps.length - m - 1, by omega⟩
    have hx2 : ps.length - 1 - m = x := by omega
    have hx0 : 0 < x := by omega
    rw [upL, hx2, show ps.length - (m + 1) = x by omega]
    rw [hx, sumTo] at h1
    unfold addUp
    rw [if_neg (by omega), sumTo_set _ _ (by rw [upL_len, hl]; have := par_lt hp hx0 (by omega); omega), if_pos (par_lt hp hx0 (by omega))]
    omega
theorem upL_root {ps L : List Int} (hp : ParOk ps) (hl : L.length = ps.length) (h1 : 1 ≤ ps.length) : (upL ps L (ps.length - 1)).getD 0 0 = sumTo L ps.length := by
  have h := upL_sum hp hl (ps.length - 1) (by omega)
  rw [show ps.length - (ps.length - 1) = 1 by omega] at h
  simpa [sumTo] using h
/-- No number is greater than all of them together, without their signs. -/
theorem upL_abs {ps L : List Int} (hp : ParOk ps) (hl : L.length = ps.length) : ∀ m, m + 1 ≤ ps.length → absTo (upL ps L m) (ps.length - m) ≤ absTo L ps.length ∧ ∀ y, y < ps.length → (((upL ps L m).getD y 0).natAbs : Int) ≤ absTo L ps.length := by
  intro m
  induction m with
  | zero => intro _; exact ⟨Int.le_refl _, fun y hy => abs_le_absTo L hy⟩
  | succ m ih =>
    intro hm
    obtain ⟨h1, h2⟩ := ih (by omega)
    obtain ⟨x, hx⟩ : ∃ x, ps.length - m = x + 1 := ⟨ps.length - m - 1, by omega⟩
    have hx2 : ps.length - 1 - m = x := by omega
    have hx0 : 0 < x := by omega
    have hpl := par_lt hp hx0 (show x < ps.length by omega)
    have hA : absTo (upL ps L (m + 1)) (ps.length - (m + 1)) ≤ absTo L ps.length := by
      rw [upL, hx2, show ps.length - (m + 1) = x by omega]
      rw [hx, absTo] at h1
      unfold addUp
      rw [if_neg (by omega), absTo_set _ _ (by rw [upL_len, hl]; omega), if_pos hpl]
      omega
    refine ⟨hA, fun y hy => ?_⟩
    rw [show ps.length - (m + 1) = x by omega] at hA
    by_cases hyx : y < x
    · exact Int.le_trans (abs_le_absTo _ hyx) hA
    · rw [upL, hx2]
      unfold addUp
      rw [if_neg (by omega), getD_set_other (by omega)]
      exact h2 y hy
/-- Ends keep their numbers. -/
theorem upL_leaf {ps L : List Int} (hp : ParOk ps) {y : Nat} (hy : leafB ps y = true) : ∀ m, m ≤ ps.length → (upL ps L m).getD y 0 = L.getD y 0 := by
  intro m
  induction m with
  | zero => intro _; rfl
  | succ m ih =>
    intro hm
    rw [upL]
    unfold addUp
    split
    · exact ih (by omega)
    · rename_i h0
      rw [getD_set_other ?_]
      · exact ih (by omega)
      · intro e
        have h3 := (leafB_iff ps y).1 hy (ps.length - 1 - m) (by omega)
        have h4 := hp (ps.length - 1 - m) (by omega) (by omega)
        omega
/-- What the program holds behind the m topmost nodes: ends that have not been reached hold 0. -/
def upI (ps L : List Int) (m : Nat) : List Int := (List.range ps.length).map fun y => if y < ps.length - m ∧ leafB ps y = true then 0 else (upL ps L m).getD y 0
theorem upI_len (ps L : List Int) (m : Nat) : (upI ps L m).length = ps.length := by simp [upI]
theorem upI_at (ps L : List Int) (m : Nat) {y : Nat} (hy : y < ps.length) : (upI ps L m).getD y 0 = if y < ps.length - m ∧ leafB ps y = true then 0 else (upL ps L m).getD y 0 := by
  unfold upI
  rw [List.getD_eq_getElem?_getD, List.getElem?_map, List.getElem?_range hy]; rfl
theorem list_ext_getD {L M : List Int} (hl : L.length = M.length) (h : ∀ y, y < L.length → L.getD y 0 = M.getD y 0) : L = M := by
  apply List.ext_getElem hl
  intro i h1 h2
  have := h i h1
  rwa [List.getD_eq_getElem?_getD, List.getElem?_eq_getElem h1, List.getD_eq_getElem?_getD, List.getElem?_eq_getElem h2] at this
theorem upI_zero {ps L : List Int} (h : ∀ y, y < ps.length → leafB ps y = false → L.getD y 0 = 0) : upI ps L 0 = List.replicate ps.length 0 := by
  refine list_ext_getD (by rw [upI_len]; simp) fun y hy => ?_
  rw [upI_len] at hy
  have e0 : (List.replicate ps.length (0 : Int)).getD y 0 = 0 := by rw [List.getD_eq_getElem?_getD, List.getElem?_replicate, if_pos hy]; rfl
  rw [upI_at ps L 0 hy, e0]
  split
  · rfl
  · rename_i hh
    have hl : leafB ps y = false := by
      cases e : leafB ps y
      · rfl
      · exact absurd ⟨by omega, e⟩ hh
    rw [upL, h y hy hl]
theorem upI_all (ps L : List Int) (hl : L.length = ps.length) : upI ps L ps.length = upL ps L ps.length := by
  refine list_ext_getD (by rw [upI_len, upL_len, hl]) fun y hy => ?_
  rw [upI_len] at hy
  rw [upI_at ps L _ hy, if_neg (by omega)]
/-- The last node gives nothing to anyone. -/
theorem upL_last (ps L : List Int) (h : 1 ≤ ps.length) : upL ps L ps.length = upL ps L (ps.length - 1) := by
  obtain ⟨m, hm⟩ : ∃ m, ps.length = m + 1 := ⟨ps.length - 1, by omega⟩
  rw [hm, show m + 1 - 1 = m by omega, upL]
  unfold addUp
  rw [if_pos (by omega)]
/-- One round of the program: an end is reached. -/
theorem upI_leaf {ps L : List Int} (hp : ParOk ps) (m : Nat) {x : Nat} (hx : ps.length - m = x + 1) (hl : leafB ps x = true) (hL : L.length = ps.length) :
    ((upI ps L m).set x (L.getD x 0)).getD x 0 = (upL ps L m).getD x 0 := by
  rw [getD_set_same (by rw [upI_len]; omega), upL_leaf hp hl m (by omega)]
theorem upI_inner {ps L : List Int} (m : Nat) {x : Nat} (hx : x < ps.length) (hl : leafB ps x = false) : (upI ps L m).getD x 0 = (upL ps L m).getD x 0 := by
  rw [upI_at ps L m hx, if_neg (by rw [hl]; simp)]
/-- One round of the program, the root but one. -/
theorem upI_round {ps L M : List Int} (hp : ParOk ps) (hL : L.length = ps.length) (m : Nat) {x : Nat} (hx : ps.length - m = x + 1) (h0 : 0 < x)
    (hM : M.length = ps.length) (hMx : M.getD x 0 = (upL ps L m).getD x 0) (hMo : ∀ y, y < ps.length → y ≠ x → M.getD y 0 = (upI ps L m).getD y 0) :
    M.set (ps.getD x 0).toNat (M.getD (ps.getD x 0).toNat 0 + M.getD x 0) = upI ps L (m + 1) := by
  have hpl := par_lt hp h0 (show x < ps.length by omega)
  have hin : leafB ps (ps.getD x 0).toNat = false := by
    rw [leafB_false]; exact ⟨x, by omega, by have := hp x h0 (by omega); omega⟩
  have hMp : M.getD (ps.getD x 0).toNat 0 = (upL ps L m).getD (ps.getD x 0).toNat 0 := by rw [hMo _ (by omega) (by omega), upI_inner m (by omega) hin]
  have hup : upL ps L (m + 1) = (upL ps L m).set (ps.getD x 0).toNat ((upL ps L m).getD (ps.getD x 0).toNat 0 + (upL ps L m).getD x 0) := by
    rw [upL, show ps.length - 1 - m = x by omega]; unfold addUp; rw [if_neg (by omega)]
  refine list_ext_getD (by rw [List.length_set, upI_len, hM]) fun y hy => ?_
  rw [List.length_set, hM] at hy
  rw [upI_at ps L (m + 1) hy]
  by_cases hy1 : y = (ps.getD x 0).toNat
  · subst hy1
    rw [getD_set_same (by omega), if_neg (by rw [hin]; simp), hup, getD_set_same (by rw [upL_len, hL]; omega), hMp, hMx]
  · rw [getD_set_other (fun e => hy1 e.symm), hup]
    by_cases hy2 : y = x
    · subst hy2
      rw [hMx, if_neg (by omega), getD_set_other (by omega)]
    · rw [hMo y hy hy2, upI_at ps L m hy]
      by_cases hc : y < ps.length - m ∧ leafB ps y = true
      · rw [if_pos hc, if_pos ⟨by omega, hc.2⟩]
      · rw [if_neg hc, if_neg (fun h => hc ⟨by omega, h.2⟩), getD_set_other (fun e => hy1 e.symm)]
/-- The round of the root. -/
theorem upI_end {ps L M : List Int} (hL : L.length = ps.length) (h1 : 1 ≤ ps.length) (hM : M.length = ps.length)
    (hMx : M.getD 0 0 = (upL ps L (ps.length - 1)).getD 0 0) (hMo : ∀ y, y < ps.length → y ≠ 0 → M.getD y 0 = (upI ps L (ps.length - 1)).getD y 0) : M = upL ps L (ps.length - 1) := by
  refine list_ext_getD (by rw [hM, upL_len, hL]) fun y hy => ?_
  rw [hM] at hy
  by_cases h : y = 0
  · subst h; exact hMx
  · rw [hMo y hy h, upI_at ps L _ hy, if_neg (by omega)]
/-- The sums of the nodes. -/
def sumsT (ps ws : List Int) : List Int := upL ps ws (ps.length - 1)
theorem sumsT_len {ps ws : List Int} (h : ws.length = ps.length) : (sumsT ps ws).length = ps.length := by unfold sumsT; rw [upL_len, h]
theorem ws_abs {ps ws : List Int} (g : Good ps ws) : absTo ws ps.length ≤ 480 := by
  have h := absTo_le (L := ws) (B := 20) ps.length (fun y hy => by have := g.w_bd hy; omega)
  have := g.n24
  omega
theorem ParOk.of {ps ws : List Int} (g : Good ps ws) : ParOk ps := g.par
theorem sumTo_nonneg {L : List Int} : ∀ k : Nat, (∀ y, y < k → 0 ≤ L.getD y 0) → 0 ≤ sumTo L k := by
  intro k
  induction k with
  | zero => intro _; simp [sumTo]
  | succ k ih => intro h; rw [sumTo]; have := ih (fun y hy => h y (by omega)); have := h k (by omega); omega
/-- The last node is an end. -/
theorem last_leaf {ps ws : List Int} (g : Good ps ws) : leafB ps (ps.length - 1) = true := by
  rw [leafB_iff]
  intro y hy e
  have := g.p_bd hy
  have := g.n1
  omega
theorem sumsT_root {ps ws : List Int} (g : Good ps ws) : 0 < (sumsT ps ws).getD 0 0 := by
  unfold sumsT
  rw [upL_root (ParOk.of g) g.nw g.n1]
  have h1 := g.n1
  have h2 := (g.leaf (ps.length - 1) (by omega) (last_leaf g)).1
  obtain ⟨m, hm⟩ : ∃ m, ps.length = m + 1 := ⟨ps.length - 1, by omega⟩
  rw [hm, show m + 1 - 1 = m by omega] at h2
  rw [hm, sumTo]
  have h3 := sumTo_nonneg (L := ws) m (fun y hy => by have := g.w_bd (x := y) (by omega); omega)
  omega
theorem sumsT_bd {ps ws : List Int} (g : Good ps ws) : ∀ y, y < ps.length → -480 ≤ (sumsT ps ws).getD y 0 ∧ (sumsT ps ws).getD y 0 ≤ 480 := by
  intro y hy
  have h1 := (upL_abs (ParOk.of g) g.nw (ps.length - 1) (by have := g.n1; omega)).2 y hy
  have h2 := ws_abs g
  unfold sumsT
  omega
end Go.Proofs.Ytligidmkhbcpmac
