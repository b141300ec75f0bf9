/- SumP, WayP, PassP, KidSum, OwnP, Prs, PrsF, UkI in one text. -/
import Derived.Test.YtligidmkhbcpmacDepthP
import Derived.Test.YtligidmkhbcpmacFracP
import Derived.Test.YtligidmkhbcpmacRow
import Derived.Test.YtligidmkhbcpmacPairE
import Derived.Test.YtligidmkhbcpmacLawX
import Derived.Test.YtligidmkhbcpmacUcI
import Derived.Deep.LoopGhost
import Derived.Deep.RegionHeld3
import Derived.ScopeJumps
import Derived.WalkMore
namespace Go.Proofs.Ytligidmkhbcpmac
set_option linter.unusedVariables false
theorem getD_set_same {L : List Int} {j : Nat} {x : Int} (h : j < L.length) : (L.set j x).getD j 0 = x := by
  rw [List.getD_eq_getElem?_getD, List.getElem?_set_self h]; rfl
theorem getD_set_other {L : List Int} {i j : Nat} {x : Int} (h : i ≠ j) : (L.set i x).getD j 0 = L.getD j 0 := by
  rw [List.getD_eq_getElem?_getD, List.getElem?_set_ne h, ← List.getD_eq_getElem?_getD]
/-- Node x gives its number to its parent. -/
def addUp (ps L : List Int) (x : Nat) : List Int := if x = 0 then L else L.set (ps.getD x 0).toNat (L.getD (ps.getD x 0).toNat 0 + L.getD x 0)
/-- The numbers behind the m topmost nodes. -/
def upL (ps L : List Int) : Nat → List Int
  | 0 => L
  | m + 1 => addUp ps (upL ps L m) (ps.length - 1 - m)
theorem addUp_len (ps L : List Int) (x : Nat) : (addUp ps L x).length = L.length := by
  unfold addUp; split <;> simp
theorem upL_len (ps L : List Int) (m : Nat) : (upL ps L m).length = L.length := by
  induction m with
  | zero => rfl
  | succ m ih => rw [upL, addUp_len, ih]
/-- The sum of the first k numbers. -/
def sumTo (L : List Int) : Nat → Int
  | 0 => 0
  | k + 1 => sumTo L k + L.getD k 0
def absTo (L : List Int) : Nat → Int
  | 0 => 0
  | k + 1 => absTo L k + ((L.getD k 0).natAbs : Int)
theorem absTo_nonneg (L : List Int) (k : Nat) : 0 ≤ absTo L k := by
  induction k with
  | zero => simp [absTo]
  | succ k ih => rw [absTo]; omega
theorem absTo_mono (L : List Int) {j k : Nat} (h : j ≤ k) : absTo L j ≤ absTo L k := by
  induction k with
  | zero => obtain rfl : j = 0 := by omega
            exact Int.le_refl _
  | succ k ih =>
    rcases Nat.lt_or_ge j (k + 1) with h' | h'
    · have := ih (by omega); rw [absTo]; omega
    · obtain rfl : j = k + 1 := by omega
      exact Int.le_refl _
theorem abs_le_absTo (L : List Int) {j k : Nat} (h : j < k) : ((L.getD j 0).natAbs : Int) ≤ absTo L k := by
  have h1 := absTo_mono L (show j + 1 ≤ k by omega)
  rw [absTo] at h1
  have := absTo_nonneg L j
  omega
theorem absTo_le {L : List Int} {B : Int} : ∀ k : Nat, (∀ y, y < k → ((L.getD y 0).natAbs : Int) ≤ B) → absTo L k ≤ (k : Int) * B := by
  intro k
  induction k with
  | zero => intro _; simp [absTo]
  | succ k ih =>
    intro h
    have h1 := ih (fun y hy => h y (by omega))
    have h2 := h k (by omega)
    rw [absTo]
    have e : ((k + 1 : Nat) : Int) * B = (k : Int) * B + B := by rw [Int.natCast_add, Int.add_mul]; simp
    omega
theorem sumTo_set (L : List Int) {i : Nat} {x : Int} : ∀ k, i < L.length → sumTo (L.set i x) k = sumTo L k + (if i < k then x - L.getD i 0 else 0) := by
  intro k hi
  induction k with
  | zero => simp [sumTo]
  | succ k ih =>
    rw [sumTo, sumTo, ih]
    by_cases e : i = k
    · subst e
      rw [getD_set_same hi, if_neg (by omega), if_pos (by omega)]; omega
    · rw [getD_set_other e]
      by_cases h : i < k
      · rw [if_pos h, if_pos (by omega)]; omega
      · rw [if_neg h, if_neg (by omega)]; omega
theorem absTo_set (L : List Int) {i : Nat} {x : Int} : ∀ k, i < L.length → absTo (L.set i x) k = absTo L k + (if i < k then ((x.natAbs : Int) - ((L.getD i 0).natAbs : Int)) else 0) := by
  intro k hi
  induction k with
  | zero => simp [absTo]
  | succ k ih =>
    rw [absTo, absTo, ih]
    by_cases e : i = k
    · subst e
      rw [getD_set_same hi, if_neg (by omega), if_pos (by omega)]; omega
    · rw [getD_set_other e]
      by_cases h : i < k
      · rw [if_pos h, if_pos (by omega)]; omega
      · rw [if_neg h, if_neg (by omega)]; omega
/-- What is asked of the parents. -/
def ParOk (ps : List Int) : Prop := ∀ y, 0 < y → y < ps.length → 0 ≤ ps.getD y 0 ∧ ps.getD y 0 < (y : Int)
theorem par_lt {ps : List Int} (hp : ParOk ps) {x : Nat} (h0 : 0 < x) (hx : x < ps.length) : (ps.getD x 0).toNat < x := by
  have := hp x h0 hx; omega
/-- The nodes that have not given their number yet hold all of it. -/
theorem upL_sum {ps L : List Int} (hp : ParOk ps) (hl : L.length = ps.length) : ∀ m, m + 1 ≤ ps.length → sumTo (upL ps L m) (ps.length - m) = sumTo L ps.length := by
  intro m
  induction m with
  | zero => intro _; rfl
  | succ m ih =>
    intro hm
    have h1 := ih (by omega)
    obtain ⟨x, hx⟩ : ∃ x, ps.length - m = x + 1 := ⟨ps.length - m - 1, by omega⟩
    have hx2 : ps.length - 1 - m = x := by omega
    have hx0 : 0 < x := by omega
    rw [upL, hx2, show ps.length - (m + 1) = x by omega]
    rw [hx, sumTo] at h1
    unfold addUp
    rw [if_neg (by omega), sumTo_set _ _ (by rw [upL_len, hl]; have := par_lt hp hx0 (by omega); omega), if_pos (par_lt hp hx0 (by omega))]
    omega
theorem upL_root {ps L : List Int} (hp : ParOk ps) (hl : L.length = ps.length) (h1 : 1 ≤ ps.length) : (upL ps L (ps.length - 1)).getD 0 0 = sumTo L ps.length := by
  have h := upL_sum hp hl (ps.length - 1) (by omega)
  rw [show ps.length - (ps.length - 1) = 1 by omega] at h
  simpa [sumTo] using h
/-- No number is greater than all of them together, without their signs. -/
theorem upL_abs {ps L : List Int} (hp : ParOk ps) (hl : L.length = ps.length) : ∀ m, m + 1 ≤ ps.length → absTo (upL ps L m) (ps.length - m) ≤ absTo L ps.length ∧ ∀ y, y < ps.length → (((upL ps L m).getD y 0).natAbs : Int) ≤ absTo L ps.length := by
  intro m
  induction m with
  | zero => intro _; exact ⟨Int.le_refl _, fun y hy => abs_le_absTo L hy⟩
  | succ m ih =>
    intro hm
    obtain ⟨h1, h2⟩ := ih (by omega)
    obtain ⟨x, hx⟩ : ∃ x, ps.length - m = x + 1 := ⟨ps.length - m - 1, by omega⟩
    have hx2 : ps.length - 1 - m = x := by omega
    have hx0 : 0 < x := by omega
    have hpl := par_lt hp hx0 (show x < ps.length by omega)
    have hA : absTo (upL ps L (m + 1)) (ps.length - (m + 1)) ≤ absTo L ps.length := by
      rw [upL, hx2, show ps.length - (m + 1) = x by omega]
      rw [hx, absTo] at h1
      unfold addUp
      rw [if_neg (by omega), absTo_set _ _ (by rw [upL_len, hl]; omega), if_pos hpl]
      omega
    refine ⟨hA, fun y hy => ?_⟩
    rw [show ps.length - (m + 1) = x by omega] at hA
    by_cases hyx : y < x
    · exact Int.le_trans (abs_le_absTo _ hyx) hA
    · rw [upL, hx2]
      unfold addUp
      rw [if_neg (by omega), getD_set_other (by omega)]
      exact h2 y hy
/-- Ends keep their numbers. -/
theorem upL_leaf {ps L : List Int} (hp : ParOk ps) {y : Nat} (hy : leafB ps y = true) : ∀ m, m ≤ ps.length → (upL ps L m).getD y 0 = L.getD y 0 := by
  intro m
  induction m with
  | zero => intro _; rfl
  | succ m ih =>
    intro hm
    rw [upL]
    unfold addUp
    split
    · exact ih (by omega)
    · rename_i h0
      rw [getD_set_other ?_]
      · exact ih (by omega)
      · intro e
        have h3 := (leafB_iff ps y).1 hy (ps.length - 1 - m) (by omega)
        have h4 := hp (ps.length - 1 - m) (by omega) (by omega)
        omega
/-- What the program holds behind the m topmost nodes: ends that have not been reached hold 0. -/
def upI (ps L : List Int) (m : Nat) : List Int := (List.range ps.length).map fun y => if y < ps.length - m ∧ leafB ps y = true then 0 else (upL ps L m).getD y 0
theorem upI_len (ps L : List Int) (m : Nat) : (upI ps L m).length = ps.length := by simp [upI]
theorem upI_at (ps L : List Int) (m : Nat) {y : Nat} (hy : y < ps.length) : (upI ps L m).getD y 0 = if y < ps.length - m ∧ leafB ps y = true then 0 else (upL ps L m).getD y 0 := by
  unfold upI
  rw [List.getD_eq_getElem?_getD, List.getElem?_map, List.getElem?_range hy]; rfl
theorem list_ext_getD {L M : List Int} (hl : L.length = M.length) (h : ∀ y, y < L.length → L.getD y 0 = M.getD y 0) : L = M := by
  apply List.ext_getElem hl
  intro i h1 h2
  have := h i h1
  rwa [List.getD_eq_getElem?_getD, List.getElem?_eq_getElem h1, List.getD_eq_getElem?_getD, List.getElem?_eq_getElem h2] at this
theorem upI_zero {ps L : List Int} (h : ∀ y, y < ps.length → leafB ps y = false → L.getD y 0 = 0) : upI ps L 0 = List.replicate ps.length 0 := by
  refine list_ext_getD (by rw [upI_len]; simp) fun y hy => ?_
  rw [upI_len] at hy
  have e0 : (List.replicate ps.length (0 : Int)).getD y 0 = 0 := by rw [List.getD_eq_getElem?_getD, List.getElem?_replicate, if_pos hy]; rfl
  rw [upI_at ps L 0 hy, e0]
  split
  · rfl
  · rename_i hh
    have hl : leafB ps y = false := by
      cases e : leafB ps y
      · rfl
      · exact absurd ⟨by omega, e⟩ hh
    rw [upL, h y hy hl]
theorem upI_all (ps L : List Int) (hl : L.length = ps.length) : upI ps L ps.length = upL ps L ps.length := by
  refine list_ext_getD (by rw [upI_len, upL_len, hl]) fun y hy => ?_
  rw [upI_len] at hy
  rw [upI_at ps L _ hy, if_neg (by omega)]
/-- The last node gives nothing to anyone. -/
theorem upL_last (ps L : List Int) (h : 1 ≤ ps.length) : upL ps L ps.length = upL ps L (ps.length - 1) := by
  obtain ⟨m, hm⟩ : ∃ m, ps.length = m + 1 := ⟨ps.length - 1, by omega⟩
  rw [hm, show m + 1 - 1 = m by omega, upL]
  unfold addUp
  rw [if_pos (by omega)]
/-- One round of the program: an end is reached. -/
theorem upI_leaf {ps L : List Int} (hp : ParOk ps) (m : Nat) {x : Nat} (hx : ps.length - m = x + 1) (hl : leafB ps x = true) (hL : L.length = ps.length) :
    ((upI ps L m).set x (L.getD x 0)).getD x 0 = (upL ps L m).getD x 0 := by
  rw [getD_set_same (by rw [upI_len]; omega), upL_leaf hp hl m (by omega)]
theorem upI_inner {ps L : List Int} (m : Nat) {x : Nat} (hx : x < ps.length) (hl : leafB ps x = false) : (upI ps L m).getD x 0 = (upL ps L m).getD x 0 := by
  rw [upI_at ps L m hx, if_neg (by rw [hl]; simp)]
/-- One round of the program, the root but one. -/
theorem upI_round {ps L M : List Int} (hp : ParOk ps) (hL : L.length = ps.length) (m : Nat) {x : Nat} (hx : ps.length - m = x + 1) (h0 : 0 < x)
    (hM : M.length = ps.length) (hMx : M.getD x 0 = (upL ps L m).getD x 0) (hMo : ∀ y, y < ps.length → y ≠ x → M.getD y 0 = (upI ps L m).getD y 0) :
    M.set (ps.getD x 0).toNat (M.getD (ps.getD x 0).toNat 0 + M.getD x 0) = upI ps L (m + 1) := by
  have hpl := par_lt hp h0 (show x < ps.length by omega)
  have hin : leafB ps (ps.getD x 0).toNat = false := by
    rw [leafB_false]; exact ⟨x, by omega, by have := hp x h0 (by omega); omega⟩
  have hMp : M.getD (ps.getD x 0).toNat 0 = (upL ps L m).getD (ps.getD x 0).toNat 0 := by rw [hMo _ (by omega) (by omega), upI_inner m (by omega) hin]
  have hup : upL ps L (m + 1) = (upL ps L m).set (ps.getD x 0).toNat ((upL ps L m).getD (ps.getD x 0).toNat 0 + (upL ps L m).getD x 0) := by
    rw [upL, show ps.length - 1 - m = x by omega]; unfold addUp; rw [if_neg (by omega)]
  refine list_ext_getD (by rw [List.length_set, upI_len, hM]) fun y hy => ?_
  rw [List.length_set, hM] at hy
  rw [upI_at ps L (m + 1) hy]
  by_cases hy1 : y = (ps.getD x 0).toNat
  · subst hy1
    rw [getD_set_same (by omega), if_neg (by rw [hin]; simp), hup, getD_set_same (by rw [upL_len, hL]; omega), hMp, hMx]
  · rw [getD_set_other (fun e => hy1 e.symm), hup]
    by_cases hy2 : y = x
    · subst hy2
      rw [hMx, if_neg (by omega), getD_set_other (by omega)]
    · rw [hMo y hy hy2, upI_at ps L m hy]
      by_cases hc : y < ps.length - m ∧ leafB ps y = true
      · rw [if_pos hc, if_pos ⟨by omega, hc.2⟩]
      · rw [if_neg hc, if_neg (fun h => hc ⟨by omega, h.2⟩), getD_set_other (fun e => hy1 e.symm)]
/-- The round of the root. -/
theorem upI_end {ps L M : List Int} (hL : L.length = ps.length) (h1 : 1 ≤ ps.length) (hM : M.length = ps.length)
    (hMx : M.getD 0 0 = (upL ps L (ps.length - 1)).getD 0 0) (hMo : ∀ y, y < ps.length → y ≠ 0 → M.getD y 0 = (upI ps L (ps.length - 1)).getD y 0) : M = upL ps L (ps.length - 1) := by
  refine list_ext_getD (by rw [hM, upL_len, hL]) fun y hy => ?_
  rw [hM] at hy
  by_cases h : y = 0
  · subst h; exact hMx
  · rw [hMo y hy h, upI_at ps L _ hy, if_neg (by omega)]
/-- The sums of the nodes. -/
def sumsT (ps ws : List Int) : List Int := upL ps ws (ps.length - 1)
theorem sumsT_len {ps ws : List Int} (h : ws.length = ps.length) : (sumsT ps ws).length = ps.length := by unfold sumsT; rw [upL_len, h]
theorem ws_abs {ps ws : List Int} (g : Good ps ws) : absTo ws ps.length ≤ 480 := by
  have h := absTo_le (L := ws) (B := 20) ps.length (fun y hy => by have := g.w_bd hy; omega)
  have := g.n24
  omega
theorem ParOk.of {ps ws : List Int} (g : Good ps ws) : ParOk ps := g.par
theorem sumTo_nonneg {L : List Int} : ∀ k : Nat, (∀ y, y < k → 0 ≤ L.getD y 0) → 0 ≤ sumTo L k := by
  intro k
  induction k with
  | zero => intro _; simp [sumTo]
  | succ k ih => intro h; rw [sumTo]; have := ih (fun y hy => h y (by omega)); have := h k (by omega); omega
/-- The last node is an end. -/
theorem last_leaf {ps ws : List Int} (g : Good ps ws) : leafB ps (ps.length - 1) = true := by
  rw [leafB_iff]
  intro y hy e
  have := g.p_bd hy
  have := g.n1
  omega
theorem sumsT_root {ps ws : List Int} (g : Good ps ws) : 0 < (sumsT ps ws).getD 0 0 := by
  unfold sumsT
  rw [upL_root (ParOk.of g) g.nw g.n1]
  have h1 := g.n1
  have h2 := (g.leaf (ps.length - 1) (by omega) (last_leaf g)).1
  obtain ⟨m, hm⟩ : ∃ m, ps.length = m + 1 := ⟨ps.length - 1, by omega⟩
  rw [hm, show m + 1 - 1 = m by omega] at h2
  rw [hm, sumTo]
  have h3 := sumTo_nonneg (L := ws) m (fun y hy => by have := g.w_bd (x := y) (by omega); omega)
  omega
theorem sumsT_bd {ps ws : List Int} (g : Good ps ws) : ∀ y, y < ps.length → -480 ≤ (sumsT ps ws).getD y 0 ∧ (sumsT ps ws).getD y 0 ≤ 480 := by
  intro y hy
  have h1 := (upL_abs (ParOk.of g) g.nw (ps.length - 1) (by have := g.n1; omega)).2 y hy
  have h2 := ws_abs g
  unfold sumsT
  omega
end Go.Proofs.Ytligidmkhbcpmac
namespace Go.Proofs.Ytligidmkhbcpmac
set_option linter.unusedVariables false
/-- The nodes from a node up to the root. -/
def wayU (ps : List Int) : Nat → Nat → List Int
  | 0, _ => []
  | f + 1, x => (x : Int) :: (if x = 0 then [] else wayU ps f (ps.getD x 0).toNat)
theorem wayU_fuel {ps : List Int} (hp : ParOk ps) : ∀ x, x < ps.length → ∀ f1 f2, x < f1 → x < f2 → wayU ps f1 x = wayU ps f2 x := by
  intro x
  induction x using Nat.strongRecOn with
  | ind x ih =>
    intro hl f1 f2 h1 h2
    obtain ⟨a, rfl⟩ : ∃ a, f1 = a + 1 := ⟨f1 - 1, by omega⟩
    obtain ⟨b, rfl⟩ : ∃ b, f2 = b + 1 := ⟨f2 - 1, by omega⟩
    rw [wayU, wayU]
    by_cases h : x = 0
    · rw [if_pos h, if_pos h]
    · rw [if_neg h, if_neg h]
      have hpl := par_lt hp (by omega) hl
      rw [ih _ hpl (by omega) a b (by omega) (by omega)]
def wayA (ps : List Int) (x : Nat) : List Int := wayU ps ps.length x
theorem wayA_zero {ps : List Int} (h : 0 < ps.length) : wayA ps 0 = [0] := by
  unfold wayA
  obtain ⟨m, hm⟩ : ∃ m, ps.length = m + 1 := ⟨ps.length - 1, by omega⟩
  rw [hm, wayU, if_pos rfl]; rfl
theorem wayA_step {ps : List Int} (hp : ParOk ps) {x : Nat} (h0 : 0 < x) (hx : x < ps.length) : wayA ps x = (x : Int) :: wayA ps (ps.getD x 0).toNat := by
  have hpl := par_lt hp h0 hx
  unfold wayA
  obtain ⟨m, hm⟩ : ∃ m, ps.length = m + 1 := ⟨ps.length - 1, by omega⟩
  have e : wayU ps ps.length x = (x : Int) :: (if x = 0 then [] else wayU ps m (ps.getD x 0).toNat) := by rw [hm, wayU]
  rw [e, if_neg (by omega), wayU_fuel hp _ (by omega) m ps.length (by omega) (by omega)]
theorem wayA_in {ps : List Int} (hp : ParOk ps) : ∀ x, x < ps.length → ∀ z ∈ wayA ps x, 0 ≤ z ∧ z ≤ (x : Int) := by
  intro x
  induction x using Nat.strongRecOn with
  | ind x ih =>
    intro hl z hz
    by_cases h : x = 0
    · subst h
      rw [wayA_zero (by omega)] at hz
      simp at hz
      omega
    · rw [wayA_step hp (by omega) hl] at hz
      have hpl := par_lt hp (by omega) hl
      rcases List.mem_cons.1 hz with h' | h'
      · omega
      · have := ih _ hpl (by omega) z h'; omega
theorem wayA_len {ps : List Int} (hp : ParOk ps) : ∀ x, x < ps.length → (wayA ps x).length ≤ x + 1 ∧ 0 < (wayA ps x).length := by
  intro x
  induction x using Nat.strongRecOn with
  | ind x ih =>
    intro hl
    by_cases h : x = 0
    · subst h; rw [wayA_zero (by omega)]; simp
    · rw [wayA_step hp (by omega) hl]
      have hpl := par_lt hp (by omega) hl
      have := ih _ hpl (by omega)
      rw [List.length_cons]; omega
/-- The way from the root. -/
def wayT (ps : List Int) (x : Int) : List Int := (wayA ps x.toNat).reverse
end Go.Proofs.Ytligidmkhbcpmac
namespace Go.Proofs.Ytligidmkhbcpmac
set_option linter.unusedVariables false
/-- What is passed down from parents to children, for the first k nodes. -/
def passL (ps : List Int) (a0 : Int) (st : Int → Nat → Int) : Nat → List Int
  | 0 => []
  | k + 1 => passL ps a0 st k ++ [st (if k = 0 then a0 else (passL ps a0 st k).getD (ps.getD k 0).toNat 0) k]
theorem passL_len (ps : List Int) (a0 : Int) (st : Int → Nat → Int) (k : Nat) : (passL ps a0 st k).length = k := by
  induction k with
  | zero => rfl
  | succ k ih => simp [passL, ih]
theorem passL_more (ps : List Int) (a0 : Int) (st : Int → Nat → Int) {j k m : Nat} (h : j < k) (hm : k ≤ m) : (passL ps a0 st m).getD j 0 = (passL ps a0 st k).getD j 0 := by
  induction m with
  | zero => omega
  | succ m ih =>
    rcases Nat.lt_or_ge k (m + 1) with h2 | h2
    · rw [passL, getD_app_left (by rw [passL_len]; omega)]; exact ih (by omega)
    · obtain rfl : k = m + 1 := by omega
      rfl
def passT (ps : List Int) (a0 : Int) (st : Int → Nat → Int) : List Int := passL ps a0 st ps.length
theorem passT_len (ps : List Int) (a0 : Int) (st : Int → Nat → Int) : (passT ps a0 st).length = ps.length := passL_len _ _ _ _
theorem passT_zero (ps : List Int) (a0 : Int) (st : Int → Nat → Int) (h : 1 ≤ ps.length) : (passT ps a0 st).getD 0 0 = st a0 0 := by
  unfold passT
  rw [passL_more ps a0 st (j := 0) (k := 1) (by omega) (by omega)]; rfl
theorem passT_step (ps : List Int) (a0 : Int) (st : Int → Nat → Int) {x : Nat} (h0 : 0 < x) (hx : x < ps.length) (hp : (ps.getD x 0).toNat < x) : (passT ps a0 st).getD x 0 = st ((passT ps a0 st).getD (ps.getD x 0).toNat 0) x := by
  unfold passT
  rw [passL_more ps a0 st (j := x) (k := x + 1) (by omega) (by omega), passL_more ps a0 st (j := (ps.getD x 0).toNat) (k := x) (by omega) (by omega), passL, if_neg (by omega)]
  have := getD_app_right (L := passL ps a0 st x) (x := st ((passL ps a0 st x).getD (ps.getD x 0).toNat 0) x)
  rwa [passL_len] at this
/-- What a node has from above. -/
def abv (ps : List Int) (a0 : Int) (T : List Int) (x : Nat) : Int := if x = 0 then a0 else T.getD (ps.getD x 0).toNat 0
theorem passT_at {ps : List Int} (hp : ParOk ps) (a0 : Int) (st : Int → Nat → Int) {x : Nat} (hx : x < ps.length) : (passT ps a0 st).getD x 0 = st (abv ps a0 (passT ps a0 st) x) x := by
  unfold abv
  by_cases h : x = 0
  · subst h; rw [if_pos rfl, passT_zero ps a0 st (by omega)]
  · rw [if_neg h, passT_step ps a0 st (by omega) hx (par_lt hp (by omega) hx)]
/-- From parents to children. -/
theorem tree_ind {ps : List Int} (hp : ParOk ps) {P : Nat → Prop} (h0 : 0 < ps.length → P 0) (hs : ∀ x, 0 < x → x < ps.length → P (ps.getD x 0).toNat → P x) : ∀ x, x < ps.length → P x := by
  intro x
  induction x using Nat.strongRecOn with
  | ind x ih =>
    intro hx
    by_cases h : x = 0
    · subst h; exact h0 hx
    · have hl := par_lt hp (by omega) hx
      exact hs x (by omega) hx (ih _ hl (by omega))
/-- From ends upwards. -/
theorem down_ind {ps ws : List Int} (g : Good ps ws) {P : Nat → Prop} (hl : ∀ x, x < ps.length → leafB ps x = true → P x) (hs : ∀ x y, x < ps.length → y < ps.length → 0 < y → (ps.getD y 0).toNat = x → P y → P x) : ∀ x, x < ps.length → P x := by
  have key : ∀ m x, ps.length - x = m → x < ps.length → P x := by
    intro m
    induction m using Nat.strongRecOn with
    | ind m ih =>
      intro x hm hx
      cases h : leafB ps x
      · obtain ⟨y, hy, e⟩ := (leafB_false ps x).1 h
        have hgt := g.kid_gt hy e
        exact hs x y hx hy (by omega) (by omega) (ih (ps.length - y) (by omega) y rfl hy)
      · exact hl x hx h
  intro x hx
  exact key _ x rfl hx
end Go.Proofs.Ytligidmkhbcpmac
namespace Go.Proofs.Ytligidmkhbcpmac
set_option linter.unusedVariables false
def kidL (ps V : List Int) (x : Nat) : List Int := (List.range ps.length).map fun y => if ps.getD y 0 = (x : Int) then V.getD y 0 else 0
theorem kidL_len (ps V : List Int) (x : Nat) : (kidL ps V x).length = ps.length := by simp [kidL]
theorem kidL_at {ps V : List Int} {x y : Nat} (hy : y < ps.length) : (kidL ps V x).getD y 0 = if ps.getD y 0 = (x : Int) then V.getD y 0 else 0 := by
  rw [List.getD_eq_getElem?_getD, List.getElem?_eq_getElem (by rw [kidL_len]; exact hy)]
  simp [kidL]
/-- A node that has given its number keeps it. -/
theorem upL_kept {ps L : List Int} (hp : ParOk ps) {y : Nat} (hy : y < ps.length) : ∀ d m, ps.length ≤ y + m + 1 → m + d + 1 ≤ ps.length → (upL ps L (m + d)).getD y 0 = (upL ps L m).getD y 0 := by
  intro d
  induction d with
  | zero => intro m _ _; rfl
  | succ d ih =>
    intro m h1 h2
    rw [show m + (d + 1) = (m + d) + 1 by omega, upL]
    obtain ⟨x, hx⟩ : ∃ x, x = ps.length - 1 - (m + d) := ⟨_, rfl⟩
    rw [← hx]
    unfold addUp
    rw [if_neg (by omega), getD_set_other (by have := par_lt hp (x := x) (by omega) (by omega); omega)]
    exact ih m h1 (by omega)
theorem upL_fin {ps L : List Int} (hp : ParOk ps) {y m : Nat} (hy : y < ps.length) (h1 : ps.length ≤ y + m + 1) (h2 : m + 1 ≤ ps.length) : (upL ps L m).getD y 0 = (upL ps L (ps.length - 1)).getD y 0 := by
  have := upL_kept (L := L) hp hy (ps.length - 1 - m) m h1 (by omega)
  rw [show m + (ps.length - 1 - m) = ps.length - 1 by omega] at this
  exact this.symm
theorem upL_kids {ps L : List Int} (h0 : ps.getD 0 0 = -1) (hp : ParOk ps) (hl : L.length = ps.length) {x : Nat} (hx : x < ps.length) :
    ∀ m, m + 1 ≤ ps.length → (upL ps L m).getD x 0 = L.getD x 0 + (sumTo (kidL ps (upL ps L (ps.length - 1)) x) ps.length - sumTo (kidL ps (upL ps L (ps.length - 1)) x) (ps.length - m)) := by
  intro m
  induction m with
  | zero => intro _; rw [upL, Nat.sub_zero]; omega
  | succ m ih =>
    intro hm
    have h1 := ih (by omega)
    obtain ⟨z, hz⟩ : ∃ z, ps.length - m = z + 1 := ⟨ps.length - m - 1, by omega⟩
    have hz2 : ps.length - 1 - m = z := by omega
    rw [hz, sumTo, kidL_at (by omega)] at h1
    rw [upL, hz2, show ps.length - (m + 1) = z by omega]
    unfold addUp
    rw [if_neg (by omega)]
    obtain ⟨q1, q2⟩ := hp z (by omega) (by omega)
    have hfz := upL_fin (L := L) hp (y := z) (m := m) (by omega) (by omega) (by omega)
    by_cases he : ps.getD z 0 = (x : Int)
    · rw [if_pos he] at h1
      rw [he, Int.toNat_natCast, getD_set_same (by rw [upL_len, hl]; exact hx), hfz]
      omega
    · rw [if_neg he] at h1
      rw [getD_set_other (by omega)]
      omega
theorem up_kids {ps L : List Int} (h0 : ps.getD 0 0 = -1) (hp : ParOk ps) (hl : L.length = ps.length) (h1 : 1 ≤ ps.length) {x : Nat} (hx : x < ps.length) :
    (upL ps L (ps.length - 1)).getD x 0 = L.getD x 0 + sumTo (kidL ps (upL ps L (ps.length - 1)) x) ps.length := by
  have h := upL_kids h0 hp hl hx (ps.length - 1) (by omega)
  rw [show ps.length - (ps.length - 1) = 0 + 1 by omega, sumTo, kidL_at (by omega), h0, if_neg (by omega), sumTo] at h
  omega
theorem sumTo_mono {L : List Int} : ∀ n k, k ≤ n → (∀ y, y < n → 0 ≤ L.getD y 0) → sumTo L k ≤ sumTo L n := by
  intro n
  induction n with
  | zero => intro k hk _; obtain rfl : k = 0 := by omega
            exact Int.le_refl _
  | succ n ih =>
    intro k hk h
    rcases Nat.lt_or_ge k (n + 1) with h' | h'
    · have h1 := ih k (by omega) (fun y hy => h y (by omega))
      have h2 := h n (by omega)
      rw [sumTo]; omega
    · obtain rfl : k = n + 1 := by omega
      exact Int.le_refl _
theorem le_sumTo {L : List Int} {n j : Nat} (hj : j < n) (h : ∀ y, y < n → 0 ≤ L.getD y 0) : L.getD j 0 ≤ sumTo L n := by
  have h1 := sumTo_mono n (j + 1) (by omega) h
  rw [sumTo] at h1
  have := sumTo_nonneg (L := L) j (fun y hy => h y (by omega))
  omega
theorem upL_nonneg {ps L : List Int} (hL : ∀ y, 0 ≤ L.getD y 0) : ∀ m y, 0 ≤ (upL ps L m).getD y 0 := by
  intro m
  induction m with
  | zero => exact hL
  | succ m ih =>
    intro y
    rw [upL]
    unfold addUp
    split
    · exact ih y
    · by_cases h : (ps.getD (ps.length - 1 - m) 0).toNat = y
      · subst h
        by_cases hl : (ps.getD (ps.length - 1 - m) 0).toNat < (upL ps L m).length
        · rw [getD_set_same hl]
          have a := ih (ps.getD (ps.length - 1 - m) 0).toNat
          have b := ih (ps.length - 1 - m)
          omega
        · rw [List.set_eq_of_length_le (by omega)]; exact ih _
      · rw [getD_set_other h]; exact ih y
theorem getD_all {L : List Int} (h : ∀ y, y < L.length → 0 ≤ L.getD y 0) (y : Nat) : 0 ≤ L.getD y 0 := by
  rcases Nat.lt_or_ge y L.length with h' | h'
  · exact h y h'
  · rw [List.getD_eq_getElem?_getD, List.getElem?_eq_none h']; exact Int.le_refl _
theorem sums_kids {ps ws : List Int} (g : Good ps ws) {x : Nat} (hx : x < ps.length) : (sumsT ps ws).getD x 0 = ws.getD x 0 + sumTo (kidL ps (sumsT ps ws) x) ps.length := up_kids g.root (ParOk.of g) g.nw g.n1 hx
theorem sums_nonneg {ps ws : List Int} (g : Good ps ws) (y : Nat) : 0 ≤ (sumsT ps ws).getD y 0 := upL_nonneg (getD_all (fun y hy => (g.w_bd (by rw [← g.nw]; exact hy)).1)) _ y
/-- Each sum is greater than 0. -/
theorem sums_pos {ps ws : List Int} (g : Good ps ws) : ∀ x, x < ps.length → 0 < (sumsT ps ws).getD x 0 := by
  refine down_ind g (fun x hx hl => ?_) (fun x y hx hy h0 e ih => ?_)
  · have h1 := sums_kids g hx
    have h2 := (g.leaf x hx hl).1
    have h3 := sumTo_nonneg (L := kidL ps (sumsT ps ws) x) ps.length (fun y hy => by
      rw [kidL_at hy]; split
      · exact sums_nonneg g y
      · exact Int.le_refl _)
    omega
  · have h1 := sums_kids g hx
    have h2 := (g.w_bd hx).1
    have hpy := g.par y h0 hy
    have h3 := le_sumTo (L := kidL ps (sumsT ps ws) x) hy (fun y hy => by
      rw [kidL_at hy]; split
      · exact sums_nonneg g y
      · exact Int.le_refl _)
    rw [kidL_at hy, if_pos (by omega)] at h3
    omega
/-- Small numbers make fractions. -/
theorem small_inB {a b : Int} (ha : -1000000000 ≤ a ∧ a ≤ 1000000000) (hb : 0 < b ∧ b ≤ 1000000) : inB (cutN a b) (cutD a b) = true := by
  have h1 := abs_cutN (a := a) (b := b) 1000000000 ha (by omega)
  have h2 := cutD_le (a := a) hb.1
  have h3 := cutD_pos (a := a) hb.1
  exact decide_eq_true (by omega)
end Go.Proofs.Ytligidmkhbcpmac
namespace Go.Proofs.Ytligidmkhbcpmac
open Go.RowKit
set_option linter.unusedVariables false
def flat2 (ls : List (Value × Value)) : List Value := ls.flatMap fun p => [p.1, p.2]
theorem flat2_nil : flat2 [] = [] := rfl
theorem flat2_cons (p : Value × Value) (ls : List (Value × Value)) : flat2 (p :: ls) = p.1 :: p.2 :: flat2 ls := rfl
theorem flat2_app (a b : List (Value × Value)) : flat2 (a ++ b) = flat2 a ++ flat2 b := by unfold flat2; rw [List.flatMap_append]
theorem flat2_len (ls : List (Value × Value)) : (flat2 ls).length = ls.length * 2 := by
  induction ls with
  | nil => rfl
  | cons p t ih => rw [flat2_cons, List.length_cons, List.length_cons, ih, List.length_cons]; omega
theorem flat2_at : ∀ (ls : List (Value × Value)) (j : Nat) (p : Value × Value), ls[j]? = some p → (flat2 ls)[j * 2]? = some p.1 ∧ (flat2 ls)[j * 2 + 1]? = some p.2 := by
  intro ls
  induction ls with
  | nil => intro j p h; simp at h
  | cons a t ih =>
    intro j p h
    cases j with
    | zero => simp at h; subst h; exact ⟨rfl, rfl⟩
    | succ j =>
      have h2 := ih j p (by simpa using h)
      rw [flat2_cons, show (j + 1) * 2 = j * 2 + 1 + 1 by omega]
      exact ⟨by simpa using h2.1, by simpa using h2.2⟩
structure OwnP (T : TypeId) (w : World) (lo hi : Nat) (v : Value) (ls : List (Value × Value)) : Prop where
  row : w.ownsRow lo T 2 v ls.length (flat2 ls)
  lt : ∀ q, v.ownBlock = some q → q < hi
  room : hi ≤ w.heap.size
theorem OwnP.below {T : TypeId} {w w' : World} {lo hi : Nat} {v : Value} {ls : List (Value × Value)} (h : OwnP T w lo hi v ls) (hb : Below hi w w') : OwnP T w' lo hi v ls := by
  refine ⟨?_, h.lt, Nat.le_trans h.room hb.size⟩
  refine ⟨h.row.1, ?_⟩
  rcases h.row.2 with hn | ⟨g, cap, cur, h1, hb', hg, rest⟩
  · exact .inl hn
  · refine .inr ⟨g, cap, cur, h1, hb', ?_, rest⟩
    rw [hb.block g (h.lt g (by rw [h1]; simp [Value.ownBlock]))]; exact hg
theorem OwnP.wide {T : TypeId} {w : World} {lo hi hi' : Nat} {v : Value} {ls : List (Value × Value)} (h : OwnP T w lo hi v ls) (h2 : hi ≤ hi') (hr : hi' ≤ w.heap.size) : OwnP T w lo hi' v ls :=
  ⟨h.row, fun q hq => by have := h.lt q hq; omega, hr⟩
theorem OwnP.low {T : TypeId} {w : World} {lo lo' hi : Nat} {v : Value} {ls : List (Value × Value)} (h : OwnP T w lo hi v ls) (h1 : lo' ≤ lo) : OwnP T w lo' hi v ls := by
  refine ⟨⟨h.row.1, ?_⟩, h.lt, h.room⟩
  rcases h.row.2 with hn | ⟨g, cap, cur, h2, hb', rest⟩
  · exact .inl hn
  · exact .inr ⟨g, cap, cur, h2, by omega, rest⟩
theorem OwnP.shape {T : TypeId} {w : World} {lo hi : Nat} {v : Value} {ls : List (Value × Value)} (h : OwnP T w lo hi v ls) (hp : 0 < ls.length) : ∃ g cap, v = .slice (some ⟨g, 0, none⟩) ls.length cap ∧ lo ≤ g ∧ g < hi := by
  rcases h.row.2 with ⟨_, h2⟩ | ⟨g, cap, cur, h1, hb, _⟩
  · omega
  · exact ⟨g, cap, h1, hb, h.lt g (by rw [h1]; simp [Value.ownBlock])⟩
theorem OwnP.cellGet {T : TypeId} {w : World} {lo hi g cap : Nat} {ls : List (Value × Value)} (h : OwnP T w lo hi (.slice (some ⟨g, 0, none⟩) ls.length cap) ls) {j : Nat} {p : Value × Value} (hj : ls[j]? = some p) : w.cell? ⟨g, j * 2, none⟩ = some p.1 ∧ w.cell? ⟨g, j * 2 + 1, none⟩ = some p.2 := by
  have hlt : j < ls.length := (List.getElem?_eq_some_iff.1 hj).1
  obtain ⟨h1, h2⟩ := flat2_at ls j p hj
  rw [h.row.cellAt (j * 2) (by omega), h.row.cellAt (j * 2 + 1) (by omega)]
  exact ⟨h1, h2⟩
theorem OwnP.app {T : TypeId} {wr w3 : World} {lo : Nat} {o v' : Value} {L : List (Value × Value)} {p : Value × Value} (h : OwnP T wr lo wr.heap.size o L)
    (hown : w3.ownsRow lo T 2 v' (L.length + 1) (flat2 L ++ [p.1, p.2])) : OwnP T w3 lo w3.heap.size v' (L ++ [p]) := by
  refine ⟨?_, fun q hq => (hown.lt q hq).2, Nat.le_refl _⟩
  rw [List.length_append, flat2_app]; exact hown
theorem OwnP.single (T : TypeId) (w : World) (lo : Nat) (p : Value × Value) (hlo : lo ≤ w.heap.size) : OwnP T (w.alloc (.cells #[p.1, p.2] T)) lo (w.alloc (.cells #[p.1, p.2] T)).heap.size (.slice (some ⟨w.heap.size, 0, none⟩) 1 1) [p] := by
  refine ⟨⟨rfl, .inr ⟨w.heap.size, 1, #[p.1, p.2], rfl, hlo, alloc_heap w _, by simp, by unfold maxLen; omega, rfl, rfl⟩⟩, ?_, Nat.le_refl _⟩
  intro q hq
  simp [Value.ownBlock] at hq
  subst hq
  simp
/-- A row in new memory. -/
def NewP (T : TypeId) (ls : List (Value × Value)) (w : World) (e : Ending) (w' : World) : Prop :=
  ∃ v, e = .returned v ∧ OwnP T w' w.heap.size w'.heap.size v ls ∧ Below w.heap.size w w'
/-- The first k of the elements that a function tells. -/
def rowP (f : Nat → Value × Value) (k : Nat) : List (Value × Value) := (List.range k).map f
theorem rowP_len (f : Nat → Value × Value) (k : Nat) : (rowP f k).length = k := by simp [rowP]
theorem rowP_succ (f : Nat → Value × Value) (k : Nat) : rowP f (k + 1) = rowP f k ++ [f k] := by unfold rowP; rw [List.range_succ, List.map_append]; rfl
theorem rowP_at (f : Nat → Value × Value) {j k : Nat} (h : j < k) : (rowP f k)[j]? = some (f j) := by unfold rowP; rw [List.getElem?_map, List.getElem?_range h]; rfl
theorem cell_two_new (w : World) (a b : Value) (T : TypeId) : ∀ (j : Nat) (u : Value), [a, b][j]? = some u → (w.alloc (.cells #[a, b] T)).cell? ((⟨w.heap.size, 0, none⟩ : Addr).add j) = some u := by
  intro j u hu
  obtain ⟨hj, hu⟩ := List.getElem?_eq_some_iff.1 hu
  rw [Addr.add_lit, Nat.zero_add]
  have hh := alloc_heap w (.cells #[a, b] T)
  refine (cell_of_heap (o := j) hh ?_).1
  have : j = 0 ∨ j = 1 := by simp at hj; omega
  rcases this with rfl | rfl
  · simpa using hu
  · simpa using hu
end Go.Proofs.Ytligidmkhbcpmac
namespace Go.Proofs.Ytligidmkhbcpmac
open Go.RowKit
set_option linter.unusedVariables false
structure OwnQ (w : World) (lo hi : Nat) (v : Value) (n : Nat) (fs : List Int) : Prop where
  len : fs.length = n * 2
  row : w.ownsRow lo 26 2 v n (fs.map (.int .i64))
  lt : ∀ q, v.ownBlock = some q → q < hi
  room : hi ≤ w.heap.size
  in64 : ∀ z ∈ fs, InI64 z
theorem OwnQ.below {w w' : World} {lo hi n : Nat} {v : Value} {fs : List Int} (h : OwnQ w lo hi v n fs) (hb : Below hi w w') : OwnQ w' lo hi v n fs := by
  refine ⟨h.len, ?_, h.lt, Nat.le_trans h.room hb.size, h.in64⟩
  refine ⟨h.row.1, ?_⟩
  rcases h.row.2 with hn | ⟨g, cap, cur, h1, hb', hg, rest⟩
  · exact .inl hn
  · refine .inr ⟨g, cap, cur, h1, hb', ?_, rest⟩
    rw [hb.block g (h.lt g (by rw [h1]; simp [Value.ownBlock]))]; exact hg
theorem OwnQ.alt {w w' : World} {lo hi lo' hi' n : Nat} {v : Value} {fs : List Int} (h : OwnQ w lo hi v n fs) (ha : Alt lo' hi' w w') (hd : hi ≤ lo' ∨ hi' ≤ lo) : OwnQ w' lo hi v n fs := by
  refine ⟨h.len, ?_, h.lt, Nat.le_trans h.room ha.size, h.in64⟩
  refine ⟨h.row.1, ?_⟩
  rcases h.row.2 with hn | ⟨g, cap, cur, h1, hb', hg, rest⟩
  · exact .inl hn
  · refine .inr ⟨g, cap, cur, h1, hb', ?_, rest⟩
    have hl := h.lt g (by rw [h1]; simp [Value.ownBlock])
    rw [ha.block g (by have := h.room; omega) (by omega)]; exact hg
theorem OwnQ.wide {w : World} {lo hi hi' n : Nat} {v : Value} {fs : List Int} (h : OwnQ w lo hi v n fs) (h2 : hi ≤ hi') (hr : hi' ≤ w.heap.size) : OwnQ w lo hi' v n fs :=
  ⟨h.len, h.row, fun q hq => by have := h.lt q hq; omega, hr, h.in64⟩
theorem OwnQ.low {w : World} {lo lo' hi n : Nat} {v : Value} {fs : List Int} (h : OwnQ w lo hi v n fs) (h1 : lo' ≤ lo) : OwnQ w lo' hi v n fs := by
  refine ⟨h.len, ⟨h.row.1, ?_⟩, h.lt, h.room, h.in64⟩
  rcases h.row.2 with hn | ⟨g, cap, cur, h2, hb', rest⟩
  · exact .inl hn
  · exact .inr ⟨g, cap, cur, h2, by omega, rest⟩
theorem OwnQ.shape {w : World} {lo hi n : Nat} {v : Value} {fs : List Int} (h : OwnQ w lo hi v n fs) (hp : 0 < n) : ∃ g cap, v = .slice (some ⟨g, 0, none⟩) n cap ∧ lo ≤ g ∧ g < hi := by
  rcases h.row.2 with ⟨_, h2⟩ | ⟨g, cap, cur, h1, hb, _⟩
  · omega
  · exact ⟨g, cap, h1, hb, h.lt g (by rw [h1]; simp [Value.ownBlock])⟩
theorem OwnQ.cellGet {w : World} {lo hi g cap n : Nat} {fs : List Int} (h : OwnQ w lo hi (.slice (some ⟨g, 0, none⟩) n cap) n fs) {j : Nat} (hj : j < n * 2) : w.cell? ⟨g, j, none⟩ = some (.int .i64 (fs.getD j 0)) := by
  have hl := h.len
  rw [h.row.cellAt j hj, List.getElem?_map, List.getD_eq_getElem?_getD, List.getElem?_eq_getElem (by omega)]; rfl
/-- As a slice that is read alone. -/
theorem OwnQ.opened {w : World} {lo hi n : Nat} {v : Value} {fs : List Int} (h : OwnQ w lo hi v n fs) : ∃ p cap, v = .slice p n cap ∧ ∀ i, i < n * 2 → ∃ g, p = some ⟨g, 0, none⟩ ∧ lo ≤ g ∧ g < hi ∧ w.cell? ⟨g, i, none⟩ = some (.int .i64 (fs.getD i 0)) := by
  rcases h.row.2 with ⟨h1, h2⟩ | ⟨g, cap, cur, h1, hb, _⟩
  · subst h2; exact ⟨none, 0, h1, fun i hi => by omega⟩
  · subst h1
    exact ⟨_, cap, rfl, fun i hi => ⟨g, rfl, hb, h.lt g (by simp [Value.ownBlock]), h.cellGet hi⟩⟩
theorem hb_nextQ {wa a b : World} (h : Hid (Below wa.heap.size wa a)) (k : Below a.heap.size a b) : Hid (Below wa.heap.size wa b) := Lib.hid (h.out.trans (k.mono h.out.size))
set_option maxHeartbeats 1000000 in
theorem eqQ (n : Nat) (fs : List Int) (v u : Value) (lo hi lo' hi' : Nat) (w : World) (hn : n ≤ 1048576) (hp : OwnQ w lo hi v n fs) (hq : OwnQ w lo' hi' u n fs) :
    Calls Try.prog 74 #[v, u] w fun e w' => e = .returned (.bool true) ∧ Below w.heap.size w w' := by
  have r1 := hp.room
  have r2 := hq.room
  obtain ⟨p, c, rfl, hp2⟩ := hp.opened
  obtain ⟨q, d, rfl, hq2⟩ := hq.opened
  have P := Lib.hid hp2
  have Q := Lib.hid hq2
  have EP := Lib.hid (fun a b w => eqP a b w)
  clear hp hq hp2 hq2
  go_enter Try.func74, Try.ntmps74
  go_wp2
  go_loopw [5] (fun i wr => ∃ k : Nat, k ≤ n ∧ i = .int .i64 k ∧ Hid (Below w.heap.size w wr)) (fun i _ => n - (intOf i).toNat)
  case atStart => exact ⟨0, Nat.zero_le _, rfl, Lib.hid (Below.refl _ _)⟩
  case round =>
    obtain ⟨k, hk, rfl, HB⟩ := hrel
    by_cases hlt : k < n
    · obtain ⟨g, rfl, _, hg, hc⟩ := P.out (k * 2) (by omega)
      obtain ⟨_, e1, _, _, hc'⟩ := P.out (k * 2 + 1) (by omega)
      injection e1 with e1
      injection e1 with e1
      subst e1
      obtain ⟨g2, rfl, _, hg2, hd⟩ := Q.out (k * 2) (by omega)
      obtain ⟨_, e1, _, _, hd'⟩ := Q.out (k * 2 + 1) (by omega)
      injection e1 with e1
      injection e1 with e1
      subst e1
      have hc := (HB.out.cell (p := ⟨g, k * 2, none⟩) (by show g < _; omega)).trans hc
      have hc' := (HB.out.cell (p := ⟨g, k * 2 + 1, none⟩) (by show g < _; omega)).trans hc'
      have hd := (HB.out.cell (p := ⟨g2, k * 2, none⟩) (by show g2 < _; omega)).trans hd
      have hd' := (HB.out.cell (p := ⟨g2, k * 2 + 1, none⟩) (by show g2 < _; omega)).trans hd'
      have h0 : (0 : Int) ≤ (k : Int) := by omega
      have h1 : (k : Int) < (n : Int) := by omega
      have lg : g < wr.heap.size := by have := HB.out.size; omega
      have lg2 : g2 < wr.heap.size := by have := HB.out.size; omega
      obtain ⟨x, hx⟩ : ∃ x : Int, x = fs.getD (k * 2) 0 := ⟨_, rfl⟩
      obtain ⟨y, hy⟩ : ∃ y : Int, y = fs.getD (k * 2 + 1) 0 := ⟨_, rfl⟩
      rw [← hx] at hc hd
      rw [← hy] at hc' hd'
      have KC : Hid (∀ w', Hid (Below wr.heap.size wr w') → w'.cell? ⟨g, k * 2, none⟩ = some (.int .i64 x) ∧ w'.cell? ⟨g, k * 2 + 1, none⟩ = some (.int .i64 y) ∧ w'.cell? ⟨g2, k * 2, none⟩ = some (.int .i64 x) ∧ w'.cell? ⟨g2, k * 2 + 1, none⟩ = some (.int .i64 y)) := Lib.hid (fun w' hb => ⟨(hb.out.cell (p := ⟨g, k * 2, none⟩) lg).trans hc, (hb.out.cell (p := ⟨g, k * 2 + 1, none⟩) lg).trans hc', (hb.out.cell (p := ⟨g2, k * 2, none⟩) lg2).trans hd, (hb.out.cell (p := ⟨g2, k * 2 + 1, none⟩) lg2).trans hd'⟩)
      have HD : Hid (Below wr.heap.size wr wr.drew) := Lib.hid (below_drew (Below.refl _ _))
      clear hx hy hc hc' hd hd' lg lg2 hg hg2
      go_wp2_with fail
      go_region_held3 (fun w' => w'.cell? ⟨g, k * 2, none⟩ = some (.int .i64 x) ∧ w'.cell? ⟨g, k * 2 + 1, none⟩ = some (.int .i64 y) ∧ w'.cell? ⟨g2, k * 2, none⟩ = some (.int .i64 x) ∧ w'.cell? ⟨g2, k * 2 + 1, none⟩ = some (.int .i64 y))
        (first | exact KC.out _ HD | exact KC.out _ (by assumption) | go_keep)
        (first
          | (go_at_call 17; (with_reducible refine (EP.out x y _).mono ?_); rintro e w3 ⟨rfl, b3⟩; (have HE3 := hb_nextQ (wa := wr) (by first | exact HD | assumption) b3); clear b3))
      all_goals
        have HB3 := Lib.hid (HB.out.trans (HE3.out.mono HB.out.size))
        clear HB HE3 HD KC
        go_wp2_with fail
        go_roundw
        case rel => exact ⟨k + 1, by omega, by go_num, HB3⟩
        case measure => simp [intOf]; omega
    · go_wp2
      go_ret
      exact ⟨rfl, HB.out⟩
set_option maxHeartbeats 1000000 in
theorem markQ (n : Nat) (fs : List Int) (v : Value) (lo hi k : Nat) (w : World) (hn : n ≤ 1048576) (hk : k ≤ 1000000000) (h : OwnQ w lo hi v n fs) :
    Calls Try.prog 75 #[v, .int .i64 k] w fun e w' => e = .returned (.int .i64 ((k + n * 2 : Nat) : Int)) ∧ OwnQ w' lo hi v n (marksI k (n * 2)) ∧ Alt lo hi w w' := by
  have hfl := h.len
  have hfin : ∀ wr : World, wr.ownsRow lo 26 2 v n ((marksI k (n * 2)).map (.int .i64)) → Alt lo hi w wr → OwnQ wr lo hi v n (marksI k (n * 2)) := fun wr h1 h2 =>
    ⟨marksI_len _ _, h1, h.lt, Nat.le_trans h.room h2.size, marksI_in _ _ (by omega)⟩
  have FIN := Lib.hid hfin
  have ROW := Lib.hid (show w.ownsRow lo 26 2 v n (markedI fs k 0) by rw [markedI_zero]; exact h.row)
  have LT := Lib.hid (h.lt)
  have HB := Lib.hid h.row.2
  obtain ⟨p, cap, rfl, hI⟩ := h.opened
  clear h hfin hI
  have OUT : Hid (∀ (wr : World) (j : Nat), j < n * 2 → wr.ownsRow lo 26 2 (.slice p n cap) n (markedI fs k j) → ∃ g, p = some ⟨g, 0, none⟩ ∧ lo ≤ g ∧ g < hi) := Lib.hid (by
    intro wr j hj hr
    rcases HB.out with ⟨h1, h2⟩ | ⟨g, cap', cur, h1, hb', _⟩
    · omega
    · injection h1 with h1 _ _
      exact ⟨g, h1, hb', LT.out g (by rw [h1]; rfl)⟩)
  clear HB LT
  have FL := Lib.hid hfl
  clear hfl
  go_enter Try.func75, Try.ntmps75
  go_wp2
  go_loopg [1, 5] n (fun gg q i wr => ∃ j : Nat, j ≤ n ∧ n - j ≤ gg ∧ i = .int .i64 j ∧ q = .int .i64 ((k + j * 2 : Nat) : Int) ∧ Hid (wr.ownsRow lo 26 2 (.slice p n cap) n (markedI fs k (j * 2))) ∧ Hid (Alt lo hi w wr))
  case atStart => exact ⟨0, Nat.zero_le _, by omega, rfl, by simp, by simpa using ROW, Lib.hid ⟨rfl, rfl, rfl, Nat.le_refl _, fun _ _ _ => rfl⟩⟩
  case round =>
    obtain ⟨j, hj, hgg, rfl, rfl, hown, hg⟩ := hrel
    by_cases hlt : j < n
    · go_wp2_with fail
      go_loopg [1, 6] 2 (fun gi q i wi => ∃ m : Nat, m ≤ 2 ∧ 2 - m ≤ gi ∧ i = .int .i64 m ∧ q = .int .i64 ((k + (j * 2 + m) : Nat) : Int) ∧ Hid (wi.ownsRow lo 26 2 (.slice p n cap) n (markedI fs k (j * 2 + m))) ∧ Hid (Alt lo hi w wi))
      case atStart => exact ⟨0, by omega, by omega, rfl, by simp, by simpa using hown, hg⟩
      case round =>
        obtain ⟨m, hm, hgi, rfl, rfl, hown2, hg2⟩ := hrel
        clear hown hg
        by_cases hml : m < 2
        · obtain ⟨g, rfl, hglo, hghi⟩ := OUT.out wr (j * 2 + m) (by omega) hown2.out
          have i0 : (0 : Int) ≤ (j : Int) := by omega
          have i1 : (j : Int) < (n : Int) := by omega
          have i2 : (0 : Int) ≤ (m : Int) := by omega
          have i3 : (m : Int) < 2 := by omega
          have hcell : ∃ s : Int, wr.cell? ⟨g, j * 2 + m, none⟩ = some (.int .i64 s) := by
            rw [hown2.out.cellAt (j * 2 + m) (by omega)]
            unfold markedI
            rw [List.getElem?_append_right (by simp [marksI]), List.length_map, marksI_len, Nat.sub_self, List.getElem?_map, List.getElem?_drop, Nat.add_zero, List.getElem?_eq_getElem (by rw [FL.out]; omega)]
            exact ⟨_, rfl⟩
          obtain ⟨s, hcl⟩ := hcell
          have hf := hown2.out.frozenAt (j * 2 + m)
          have st := hown2.out.stored (j * 2 + m) (.int .i64 ((k + (j * 2 + m) : Nat) : Int))
          have NEW : Hid ((wr.setCell ⟨g, j * 2 + m, none⟩ (.int .i64 ((k + (j * 2 + m) : Nat) : Int))).ownsRow lo 26 2 (.slice (some ⟨g, 0, none⟩) n cap) n (markedI fs k (j * 2 + (m + 1)))) := by
            rw [show j * 2 + (m + 1) = j * 2 + m + 1 by omega, ← markedI_set fs k (j * 2 + m) (by rw [FL.out]; omega)]; exact Lib.hid st.1
          have G2 := Lib.hid (hg2.out.trans (Alt.of_grown (lo := lo) (hi := hi) st.2 (fun q hq => by injection hq; omega)))
          clear st
          go_wp2_with fail
          go_roundg (2 - (m + 1))
          case rel => exact ⟨m + 1, by omega, by omega, by go_num, by go_num, NEW, G2⟩
          case measure => omega
        · have hm2 : m = 2 := by omega
          subst hm2
          have NEW : Hid (wr.ownsRow lo 26 2 (.slice p n cap) n (markedI fs k ((j + 1) * 2))) := by
            rw [show (j + 1) * 2 = j * 2 + 2 by omega]; exact hown2
          go_wp2_with fail
          go_roundg (n - (j + 1))
          case rel => exact ⟨j + 1, by omega, by omega, by go_num, by go_num, NEW, hg2⟩
          case measure => omega
    · have hj2 : j = n := by omega
      have EQ := Lib.hid hj2
      have RES := Lib.hid (FIN.out wr (by have := hown.out; rw [hj2, markedI_all fs k _ FL.out] at this; exact this) hg.out)
      clear hj2
      go_wp2_with fail
      go_ret
      exact ⟨by first | rfl | (rw [EQ.out]; rfl), RES.out, hg.out⟩
theorem marksI_get (k n i : Nat) (h : i < n) : (marksI k n).getD i 0 = ((k + i : Nat) : Int) := by
  rw [List.getD_eq_getElem?_getD, List.getElem?_eq_getElem (by rw [marksI_len]; exact h), marksI_at k n i h]; rfl
set_option maxHeartbeats 1000000 in
theorem heldQ (k n : Nat) (v : Value) (lo hi : Nat) (w : World) (hn : n ≤ 1048576) (hk : k ≤ 1000000000) (h : OwnQ w lo hi v n (marksI k (n * 2))) :
    Calls Try.prog 76 #[v, .int .i64 k] w fun e w' => e = .returned (.int .i64 ((k + n * 2 : Nat) : Int)) ∧ Below w.heap.size w w' := by
  obtain ⟨p, c, rfl, hp⟩ := h.opened
  have P : Hid (∀ i : Nat, i < n * 2 → ∃ g, p = some ⟨g, 0, none⟩ ∧ w.cell? ⟨g, i, none⟩ = some (.int .i64 ((k + i : Nat) : Int))) := Lib.hid (fun i hi => by
    obtain ⟨g, e, _, _, hc⟩ := hp i hi
    exact ⟨g, e, by rw [hc, marksI_get k _ i hi]⟩)
  clear hp h
  go_enter Try.func76, Try.ntmps76
  go_wp2
  go_loopg [1, 5] n (fun gg q i wr => ∃ j : Nat, j ≤ n ∧ n - j ≤ gg ∧ i = .int .i64 j ∧ q = .int .i64 ((k + j * 2 : Nat) : Int) ∧ wr = w)
  case atStart => exact ⟨0, Nat.zero_le _, by omega, rfl, by simp, rfl⟩
  case round =>
    obtain ⟨j, hj, hgg, rfl, rfl, rfl⟩ := hrel
    by_cases hlt : j < n
    · go_wp2_with fail
      go_loopg [1, 6] 2 (fun gi q i wi => ∃ m : Nat, m ≤ 2 ∧ 2 - m ≤ gi ∧ i = .int .i64 m ∧ q = .int .i64 ((k + (j * 2 + m) : Nat) : Int) ∧ wi = wr)
      case atStart => exact ⟨0, by omega, by omega, rfl, by simp, rfl⟩
      case round =>
        obtain ⟨m, hm, hgi, rfl, rfl, rfl⟩ := hrel
        by_cases hml : m < 2
        · obtain ⟨g, rfl, hc⟩ := P.out (j * 2 + m) (by omega)
          have i0 : (0 : Int) ≤ (j : Int) := by omega
          have i1 : (j : Int) < (n : Int) := by omega
          have i2 : (0 : Int) ≤ (m : Int) := by omega
          have i3 : (m : Int) < 2 := by omega
          go_wp2_with fail
          go_roundg (2 - (m + 1))
          case rel => exact ⟨m + 1, by omega, by omega, by go_num, by go_num, by first | trivial | rfl⟩
          case measure => omega
        · have hm2 : m = 2 := by omega
          subst hm2
          go_wp2_with fail
          go_roundg (n - (j + 1))
          case rel => exact ⟨j + 1, by omega, by omega, by go_num, by go_num, by first | trivial | rfl⟩
          case measure => omega
    · have hj2 : j = n := by omega
      have EQ := Lib.hid hj2
      clear hj2
      go_wp2_with fail
      go_ret
      exact ⟨by first | rfl | (rw [EQ.out]; rfl), Below.refl _ _⟩
end Go.Proofs.Ytligidmkhbcpmac
namespace Go.Proofs.Ytligidmkhbcpmac
open Go.RowKit
set_option linter.unusedVariables false
/-- The cells of the first k pairs. -/
def prL (A B : Nat → Int) : Nat → List Int
  | 0 => []
  | k + 1 => prL A B k ++ [A k, B k]
theorem prL_len (A B : Nat → Int) (k : Nat) : (prL A B k).length = k * 2 := by
  induction k with
  | zero => rfl
  | succ k ih => rw [prL, List.length_append, ih]; simp; omega
theorem prL_at (A B : Nat → Int) {k j : Nat} (h : j < k) : (prL A B k).getD (j * 2) 0 = A j ∧ (prL A B k).getD (j * 2 + 1) 0 = B j := by
  induction k with
  | zero => omega
  | succ k ih =>
    have hl := prL_len A B k
    rw [prL]
    rcases Nat.lt_or_ge j k with h' | h'
    · rw [getD_app_left (by omega), getD_app_left (by omega)]; exact ih h'
    · obtain rfl : j = k := by omega
      rw [List.getD_eq_getElem?_getD, List.getD_eq_getElem?_getD, List.getElem?_append_right (by omega), List.getElem?_append_right (by omega), hl, Nat.sub_self, show j * 2 + 1 - j * 2 = 1 by omega]
      exact ⟨rfl, rfl⟩
theorem prL_mem {A B : Nat → Int} {P : Int → Prop} : ∀ k, (∀ j, j < k → P (A j) ∧ P (B j)) → ∀ z ∈ prL A B k, P z := by
  intro k
  induction k with
  | zero => intro _ z hz; cases hz
  | succ k ih =>
    intro h z hz
    rw [prL] at hz
    rcases List.mem_append.1 hz with h' | h'
    · exact ih (fun j hj => h j (by omega)) z h'
    · have := h k (by omega)
      simp at h'
      rcases h' with rfl | rfl
      · exact this.1
      · exact this.2
/-- The row while its elements are set. -/
def halfQ (A B : Nat → Int) (n k : Nat) : List Int := prL A B k ++ List.replicate ((n - k) * 2) 0
theorem halfQ_len (A B : Nat → Int) {n k : Nat} (h : k ≤ n) : (halfQ A B n k).length = n * 2 := by
  unfold halfQ; rw [List.length_append, prL_len, List.length_replicate]; omega
theorem halfQ_zero (A B : Nat → Int) (n : Nat) : halfQ A B n 0 = List.replicate (n * 2) 0 := by simp [halfQ, prL]
theorem halfQ_all (A B : Nat → Int) {n k : Nat} (h : n ≤ k) : halfQ A B n k = prL A B k := by
  unfold halfQ; rw [show (n - k) * 2 = 0 by omega]; simp
theorem halfQ_set (A B : Nat → Int) {n k : Nat} (h : k < n) : ((halfQ A B n k).set (k * 2) (A k)).set (k * 2 + 1) (B k) = halfQ A B n (k + 1) := by
  unfold halfQ
  have hl := prL_len A B k
  obtain ⟨m, hm⟩ : ∃ m, (n - k) * 2 = m + 2 := ⟨(n - k) * 2 - 2, by omega⟩
  rw [List.set_append_right _ _ (by omega), hl, Nat.sub_self, hm, show (n - (k + 1)) * 2 = m by omega, List.set_append_right _ _ (by omega), hl, show k * 2 + 1 - k * 2 = 1 by omega, prL, List.append_assoc]
  rfl
theorem toList_madeCells_two (z : Value) (n : Nat) : (madeCells #[z, z] (n * 2)).toList = List.replicate (n * 2) z := by
  apply List.ext_getElem?
  intro j
  by_cases hj : j < n * 2
  · have : j % 2 = 0 ∨ j % 2 = 1 := by omega
    rcases this with h | h <;> simp [madeCells, hj, h]
  · simp [madeCells, hj]
theorem pairInfo : (Try.prog.info? 26).map (fun i => (i.zero, i.size, i.bytes)) = some (some (.agg #[.int .i64 0, .int .i64 0]), 2, 16) := by kernel_rfl
theorem OwnQ.made {w1 : World} {lo g n : Nat} (h : w1.ownsRow lo 26 2 (.slice (some ⟨g, 0, none⟩) n n) n (madeCells (Value.agg #[.int .i64 0, .int .i64 0]).cells (n * 2)).toList) : OwnQ w1 lo w1.heap.size (.slice (some ⟨g, 0, none⟩) n n) n (List.replicate (n * 2) 0) := by
  rw [show (Value.agg #[Value.int .i64 0, Value.int .i64 0]).cells = #[Value.int .i64 0, Value.int .i64 0] from rfl, toList_madeCells_two] at h
  refine ⟨by simp, by rw [List.map_replicate]; exact h, fun q hq => (h.lt q hq).2, Nat.le_refl _, fun z hz => ?_⟩
  rw [List.eq_of_mem_replicate hz]; unfold InI64; omega
theorem OwnQ.set2 {w : World} {lo hi g cap n : Nat} {fs : List Int} (h : OwnQ w lo hi (.slice (some ⟨g, 0, none⟩) n cap) n fs) (j : Nat) {x y : Int} (hx : InI64 x) (hy : InI64 y) :
    OwnQ ((w.setCell ⟨g, j * 2, none⟩ (.int .i64 x)).setCell ⟨g, j * 2 + 1, none⟩ (.int .i64 y)) lo hi (.slice (some ⟨g, 0, none⟩) n cap) n ((fs.set (j * 2) x).set (j * 2 + 1) y) := by
  have h1 := h.row.stored (j * 2) (.int .i64 x)
  have h2 := h1.1.stored (j * 2 + 1) (.int .i64 y)
  refine ⟨by rw [List.length_set, List.length_set]; exact h.len, by rw [List.map_set, List.map_set]; exact h2.1, h.lt, Nat.le_trans h.room (Nat.le_trans h1.2.size h2.2.size), fun z hz => ?_⟩
  rcases List.mem_or_eq_of_mem_set hz with hz | rfl
  · rcases List.mem_or_eq_of_mem_set hz with hz | rfl
    · exact h.in64 z hz
    · exact hx
  · exact hy
theorem OwnQ.empty (w1 : World) (lo : Nat) (h : lo ≤ w1.heap.size) : OwnQ (w1.alloc (.cells #[] 26)) lo (w1.alloc (.cells #[] 26)).heap.size (.slice (some ⟨w1.heap.size, 0, none⟩) 0 0) 0 [] := by
  refine ⟨rfl, ⟨rfl, .inr ⟨w1.heap.size, 0, #[], rfl, h, alloc_heap w1 _, Nat.le_refl _, Nat.zero_le _, rfl, rfl⟩⟩, ?_, Nat.le_refl _, fun z hz => by cases hz⟩
  intro q hq
  simp [Value.ownBlock] at hq
  subst hq
  simp
theorem OwnQ.app {wr w3 : World} {lo n : Nat} {o v' : Value} {fs : List Int} {x y : Int} (h : OwnQ wr lo wr.heap.size o n fs) (hx : InI64 x) (hy : InI64 y)
    (hown : w3.ownsRow lo 26 2 v' (n + 1) (fs.map (.int .i64) ++ [.int .i64 x, .int .i64 y])) : OwnQ w3 lo w3.heap.size v' (n + 1) (fs ++ [x, y]) := by
  refine ⟨by have := h.len; simp; omega, by rw [List.map_append]; exact hown, fun q hq => (hown.lt q hq).2, Nat.le_refl _, fun z hz => ?_⟩
  rcases List.mem_append.1 hz with hz | hz
  · exact h.in64 z hz
  · simp at hz
    rcases hz with rfl | rfl
    · exact hx
    · exact hy
/-- A row in new memory, and whether there is one. -/
def NewQ (n : Nat) (fs : List Int) (w : World) (e : Ending) (w' : World) : Prop := ∃ v, e = .returned v ∧ OwnQ w' w.heap.size w'.heap.size v n fs ∧ Below w.heap.size w w'
def NewQB (n : Nat) (fs : List Int) (ok : Bool) (w : World) (e : Ending) (w' : World) : Prop := ∃ v, e = .returned (.tuple #[v, .bool ok]) ∧ OwnQ w' w.heap.size w'.heap.size v n fs ∧ Below w.heap.size w w'
theorem newQ_empty {w w1 : World} (hb : Below w.heap.size w w1) {g : Nat} (hg : g = w1.heap.size) : NewQB 0 [] false w (.returned (.tuple #[.slice (some ⟨g, 0, none⟩) 0 0, .bool false])) (w1.alloc (.cells #[] 26)) := by
  subst hg; exact ⟨_, rfl, OwnQ.empty w1 w.heap.size hb.size, hb.alloc hb.size _⟩
theorem newQ_back {n : Nat} {fs : List Int} {w w1 w2 : World} {v : Value} (hb : Below w.heap.size w w1) (h : OwnQ w2 w1.heap.size w2.heap.size v n fs) (hb2 : Below w1.heap.size w1 w2) : NewQB n fs true w (.returned (.tuple #[v, .bool true])) w2 :=
  ⟨_, rfl, h.low hb.size, hb.trans (hb2.mono hb.size)⟩
end Go.Proofs.Ytligidmkhbcpmac
namespace Go.Proofs.Ytligidmkhbcpmac
open Go.RowKit
set_option linter.unusedVariables false
/-- The chance of just j red draws, in lowest terms. -/
def ukT (r b x : Int) (n j : Nat) : List Int := tpL (chN n j : Nat) r b x j (n - j)
def ukN (r b x : Int) (n j : Nat) : Int := cutN (prodI (ukT r b x n j)) (prodN (grF (r + b) x) n)
def ukD (r b x : Int) (n j : Nat) : Int := cutD (prodI (ukT r b x n j)) (prodN (grF (r + b) x) n)
def ukB (r b x : Int) (n j : Nat) : Bool := inB (ukN r b x n j) (ukD r b x n j)
theorem uk_yes {r b x : Int} {n j : Nat} (h : ukB r b x n j = true) : chV (ukT r b x n j) (grF (r + b) x) n = .tuple #[.agg #[.int .i64 (ukN r b x n j), .int .i64 (ukD r b x n j)], .bool true] := if_pos h
theorem uk_no {r b x : Int} {n j : Nat} (h : ukB r b x n j = false) : chV (ukT r b x n j) (grF (r + b) x) n = .tuple #[.agg #[.int .i64 0, .int .i64 0], .bool false] := if_neg (fun e => by rw [show ukB r b x n j = true from e] at h; cases h)
theorem uk_in {r b x : Int} {n j : Nat} (h : ukB r b x n j = true) : InI64 (ukN r b x n j) ∧ InI64 (ukD r b x n j) := by
  unfold ukB inB at h
  rw [decide_eq_true_iff] at h
  unfold InI64; omega
def ctOk (r b x n : Int) : Bool := urOk r b x && (decide (0 ≤ n ∧ n ≤ 10) && (List.range (n.toNat + 1)).all (ukB r b x n.toNat))
def ctN (r b x n : Int) : Nat := if ctOk r b x n = true then n.toNat + 1 else 0
def ctL (r b x n : Int) : List Int := if ctOk r b x n = true then prL (ukN r b x n.toNat) (ukD r b x n.toNat) (n.toNat + 1) else []
theorem ct_no {r b x n : Int} (h : ctOk r b x n = false) : ctN r b x n = 0 ∧ ctL r b x n = [] := by
  unfold ctN ctL; rw [h]; exact ⟨rfl, rfl⟩
theorem ct_len (r b x n : Int) : ctN r b x n ≤ 1048576 := by
  unfold ctN
  split
  · rename_i h
    unfold ctOk at h
    simp only [Bool.and_eq_true, decide_eq_true_iff] at h
    omega
  · omega
theorem all_no {p : Nat → Bool} {k m : Nat} (hk : k < m) (h : p k = false) : (List.range m).all p = false := by
  cases e : (List.range m).all p
  · rfl
  · rw [List.all_eq_true] at e
    rw [e k (List.mem_range.2 hk)] at h
    cases h
theorem all_yes {p : Nat → Bool} {m : Nat} (h : ∀ k, k < m → p k = true) : (List.range m).all p = true := by
  rw [List.all_eq_true]
  intro k hk
  exact h k (List.mem_range.1 hk)
theorem jump_ret {l : Nat} {J : Act → World → Prop} {Q : Exit → Act → World → Prop} {a : Act} {w : World} : Exit.jump l J Q .ret a w = Q .ret a w := rfl
theorem jump_goto {l : Nat} {J : Act → World → Prop} {Q : Exit → Act → World → Prop} {a : Act} {w : World} (h : J a w) : Exit.jump l J Q (.goto l) a w := ⟨rfl, h⟩
theorem UBox.push {w w6 : World} {R : Nat} {r b x : Int} {o : Obj} {v : Value} (h : UBox w R r b x) (hg : (w.alloc o).grownBy w6 v.ownBlock) (hne : v.ownBlock = some R → False) : UBox w6 R r b x := by
  unfold UBox at h ⊢
  have hl := (Array.getElem?_eq_some_iff.1 h).1
  rw [hg.block R (by simp; omega) (fun e => hne e.symm)]
  show (w.heap.push o)[R]? = _
  rw [Array.getElem?_push, if_neg (by omega)]
  exact h
set_option maxRecDepth 100000 in
set_option maxHeartbeats 8000000 in
theorem ctC (r b x n : Int) (w : World) : Calls Try.prog 73 #[.int .i64 r, .int .i64 b, .int .i64 x, .int .i64 n] w (NewQB (ctN r b x n) (ctL r b x n) (ctOk r b x n) w) := by
  have V := Lib.hid (fun w => urnOfC r b x w)
  have G := Lib.hid (fun w => fromI n 0 10 w)
  obtain ⟨i0, hif, hz0, hz1, hz2⟩ := info_parts pairInfo
  have HIF := Lib.hid hif
  clear hif
  have O1 := Lib.hid (OwnQ.empty w w.heap.size (Nat.le_refl _))
  have B0 := Lib.hid ((Below.refl w.heap.size w).alloc (Nat.le_refl _) (.cells #[] 26))
  obtain ⟨wa, hwa⟩ : ∃ wa, wa = w.alloc (.cells #[] 26) := ⟨_, rfl⟩
  rw [← hwa] at O1 B0
  have GT : wa.heap.size = w.heap.size + 1 := by rw [hwa]; simp
  cases hv : urOk r b x
  · obtain ⟨y1, y2⟩ := ct_no (r := r) (b := b) (x := x) (n := n) (by unfold ctOk; rw [hv, Bool.false_and])
    rw [y1, y2, show ctOk r b x n = false by unfold ctOk; rw [hv, Bool.false_and]]
    clear y1 y2
    rw [hv] at V
    rw [show urV r b x = .agg #[.int .i64 0, .int .i64 0, .int .i64 0] from if_neg (by rw [hv]; decide)] at V
    clear hv
    go_enter Try.func73, Try.ntmps73
    go_wp2_with fail
    refine wp_scope_jumps 0 (fun a w' => Hid (Below w.heap.size w w' ∧ True) ∧ ∃ t0 t1 t2 t3 t4 t5 t6 t7 t8 t9 t10 t11 t12 t13 t14 t15 t16 t17 t18 t19 t20 t21 t22 t23 t24 t25 t26 t27 t28 t29 t30 t31 t32 t33 t34 t35 t36 t37 t38 t39 t40 t41 t42 t43 t44 t45 t46 t47 t48 t49 t50 t51 t52 t53 t54 t55 t56 : Value, a = { tmps := #[t0, t1, t2, t3, t4, t5, t6, t7, t8, t9, t10, t11, t12, t13, t14, t15, t16, t17, t18, t19, t20, t21, t22, t23, t24, t25, t26, t27, t28, t29, t30, t31, t32, t33, t34, t35, t36, t37, t38, t39, t40, t41, t42, t43, t44, t45, t46, t47, t48, t49, t50, t51, t52, t53, t54, t55, t56], defers := [] }) (fun _ _ => 0) rfl ?_ ?_
    rotate_left
    · intro a w' hJ
      obtain ⟨hF, t0, t1, t2, t3, t4, t5, t6, t7, t8, t9, t10, t11, t12, t13, t14, t15, t16, t17, t18, t19, t20, t21, t22, t23, t24, t25, t26, t27, t28, t29, t30, t31, t32, t33, t34, t35, t36, t37, t38, t39, t40, t41, t42, t43, t44, t45, t46, t47, t48, t49, t50, t51, t52, t53, t54, t55, t56, rfl⟩ := hJ
      clear V
      go_wp2_with fail
      try go_step3
      go_wp2_with fail
      rw [jump_ret]
      go_ret2
      skip
      exact newQ_empty hF.out.1 (by simp)
    go_wp2_with fail
    rw [← hwa]
    clear hwa
    refine (V.out _).mono ?_
    rintro e w1 ⟨rfl, b1⟩
    have O1 := Lib.hid ((O1.out.below b1).wide b1.size (Nat.le_refl _))
    have B1 := Lib.hid (B0.out.trans (b1.mono B0.out.size))
    have s01 := Lib.hid (show w.heap.size + 1 ≤ w1.heap.size by have := b1.size; omega)
    clear b1
    have UB := Lib.hid (UBox.new w1 0 0 0)
    have B1 := Lib.hid (B1.out.alloc B1.out.size (.cells #[.int .i64 0, .int .i64 0, .int .i64 0] 121))
    have O1 := Lib.hid ((O1.out.below ((Below.refl w1.heap.size w1).alloc (Nat.le_refl _) (.cells #[.int .i64 0, .int .i64 0, .int .i64 0] 121))).wide (by simp) (Nat.le_refl _))
    go_wp2_with fail
    go_step3
    refine And.intro rfl ?_
    exact ⟨Lib.hid ⟨B1.out, trivial⟩, _, _, _, _, _, _, _, _, _, _, _, _, _, _, _, _, _, _, _, _, _, _, _, _, _, _, _, _, _, _, _, _, _, _, _, _, _, _, _, _, _, _, _, _, _, _, _, _, _, _, _, _, _, _, _, _, _, rfl⟩
  · rw [hv] at V
    rw [show urV r b x = .agg #[.int .i64 r, .int .i64 b, .int .i64 x] from if_pos hv] at V
    by_cases hn : 0 ≤ n ∧ n ≤ 10
    · rw [decide_eq_true hn] at G
      obtain ⟨N, rfl⟩ : ∃ N : Nat, n = N := ⟨n.toNat, by omega⟩
      have hN : N ≤ 10 := by omega
      obtain ⟨hr, hbb, hx, hp⟩ := urn_has3 hv
      have CH := Lib.hid (fun j (hj : j ≤ N) w => chooseC N j w (by omega) hj)
      have CC : Hid (∀ j, j ≤ N → ∀ w, Calls Try.prog 138 #[.agg #[.int .i64 r, .int .i64 b, .int .i64 x], .int .i64 (chN N j : Nat), .int .i64 (j : Int), .int .i64 ((N : Int) - (j : Int))] w (Gives (chV (ukT r b x N j) (grF (r + b) x) N) w)) := Lib.hid (fun j hj w => by
        have h := chanceC r b x (chN N j : Nat) j (N - j) w (by have := ch_pos N (by omega) j (by omega) hj; omega) (by rw [show j + (N - j) = N by omega]; exact Int.le_refl _) hr hbb hx hp (by omega)
        rw [show j + (N - j) = N by omega, show ((N - j : Nat) : Int) = (N : Int) - (j : Int) by omega] at h
        exact h)
      have UY := Lib.hid (fun j (h : ukB r b x N j = true) => uk_yes h)
      have UX := Lib.hid (fun j (h : ukB r b x N j = false) => uk_no h)
      have UI := Lib.hid (fun j (h : ukB r b x N j = true) => uk_in h)
      have BN : Hid (∀ k, k < N + 1 → ukB r b x N k = false → ctN r b x N = 0 ∧ ctL r b x N = [] ∧ ctOk r b x N = false) := Lib.hid (fun k hk h => by
        have e : ctOk r b x N = false := by unfold ctOk; rw [Int.toNat_natCast, all_no hk h, Bool.and_false, Bool.and_false]
        exact ⟨(ct_no e).1, (ct_no e).2, e⟩)
      have BY : Hid ((∀ k, k < N + 1 → ukB r b x N k = true) → ctN r b x N = N + 1 ∧ ctL r b x N = prL (ukN r b x N) (ukD r b x N) (N + 1) ∧ ctOk r b x N = true) := Lib.hid (fun h => by
        have e : ctOk r b x N = true := by unfold ctOk; rw [Int.toNat_natCast, all_yes h, hv, decide_eq_true hn]; rfl
        refine ⟨?_, ?_, e⟩
        · unfold ctN; rw [if_pos e, Int.toNat_natCast]
        · unfold ctL; rw [if_pos e, Int.toNat_natCast])
      obtain ⟨X, hX⟩ : ∃ X : Nat → Value, X = fun j => chV (ukT r b x N j) (grF (r + b) x) N := ⟨_, rfl⟩
      have XD : ∀ j, chV (ukT r b x N j) (grF (r + b) x) N = X j := fun j => by rw [hX]
      simp only [XD] at CC UY UX
      obtain ⟨A, hA⟩ : ∃ A : Nat → Int, A = ukN r b x N := ⟨_, rfl⟩
      obtain ⟨D, hD⟩ : ∃ D : Nat → Int, D = ukD r b x N := ⟨_, rfl⟩
      obtain ⟨K, hK⟩ : ∃ K : Nat → Bool, K = ukB r b x N := ⟨_, rfl⟩
      rw [← hA] at UY UI BY
      rw [← hD] at UY UI BY
      rw [← hK] at UY UX UI BN BY
      obtain ⟨rn, hrn⟩ : ∃ rn, rn = ctN r b x N := ⟨_, rfl⟩
      obtain ⟨rl, hrl⟩ : ∃ rl, rl = ctL r b x N := ⟨_, rfl⟩
      obtain ⟨rk, hrk⟩ : ∃ rk, rk = ctOk r b x N := ⟨_, rfl⟩
      rw [← hrn, ← hrl, ← hrk] at BN BY ⊢
      have P0 := Lib.hid (show prL A D 0 = [] from rfl)
      have PS := Lib.hid (fun k => show prL A D (k + 1) = prL A D k ++ [A k, D k] from rfl)
      clear hv hn hr hbb hx hp hX XD hA hD hK hrn hrl hrk
      go_enter Try.func73, Try.ntmps73
      go_wp2_with fail
      refine wp_scope_jumps 0 (fun a w' => Hid (Below w.heap.size w w' ∧ (rn = 0 ∧ rl = [] ∧ rk = false)) ∧ ∃ t0 t1 t2 t3 t4 t5 t6 t7 t8 t9 t10 t11 t12 t13 t14 t15 t16 t17 t18 t19 t20 t21 t22 t23 t24 t25 t26 t27 t28 t29 t30 t31 t32 t33 t34 t35 t36 t37 t38 t39 t40 t41 t42 t43 t44 t45 t46 t47 t48 t49 t50 t51 t52 t53 t54 t55 t56 : Value, a = { tmps := #[t0, t1, t2, t3, t4, t5, t6, t7, t8, t9, t10, t11, t12, t13, t14, t15, t16, t17, t18, t19, t20, t21, t22, t23, t24, t25, t26, t27, t28, t29, t30, t31, t32, t33, t34, t35, t36, t37, t38, t39, t40, t41, t42, t43, t44, t45, t46, t47, t48, t49, t50, t51, t52, t53, t54, t55, t56], defers := [] }) (fun _ _ => 0) rfl ?_ ?_
      rotate_left
      · intro a w' hJ
        obtain ⟨hF, t0, t1, t2, t3, t4, t5, t6, t7, t8, t9, t10, t11, t12, t13, t14, t15, t16, t17, t18, t19, t20, t21, t22, t23, t24, t25, t26, t27, t28, t29, t30, t31, t32, t33, t34, t35, t36, t37, t38, t39, t40, t41, t42, t43, t44, t45, t46, t47, t48, t49, t50, t51, t52, t53, t54, t55, t56, rfl⟩ := hJ
        clear V G CH CC UY UX UI BN BY P0 PS
        go_wp2_with fail
        try go_step3
        go_wp2_with fail
        rw [jump_ret]
        go_ret2
        rw [hF.out.2.1, hF.out.2.2.1, hF.out.2.2.2]
        exact newQ_empty hF.out.1 (by simp)
      go_wp2_with fail
      rw [← hwa]
      clear hwa
      refine (V.out _).mono ?_
      rintro e w1 ⟨rfl, b1⟩
      have O1 := Lib.hid ((O1.out.below b1).wide b1.size (Nat.le_refl _))
      have B1 := Lib.hid (B0.out.trans (b1.mono B0.out.size))
      have s01 := Lib.hid (show w.heap.size + 1 ≤ w1.heap.size by have := b1.size; omega)
      clear b1
      have UB := Lib.hid (UBox.new w1 r b x)
      have B1 := Lib.hid (B1.out.alloc B1.out.size (.cells #[.int .i64 r, .int .i64 b, .int .i64 x] 121))
      have O1 := Lib.hid ((O1.out.below ((Below.refl w1.heap.size w1).alloc (Nat.le_refl _) (.cells #[.int .i64 r, .int .i64 b, .int .i64 x] 121))).wide (by simp) (Nat.le_refl _))
      go_wp2_with fail
      refine (G.out _).mono ?_
      rintro e w2 ⟨rfl, rfl⟩
      obtain ⟨gu, hgu⟩ : ∃ gu, gu = w1.heap.size := ⟨_, rfl⟩
      rw [← hgu] at UB ⊢
      have NQ0 : Hid (∀ q, (Value.slice (some ⟨w.heap.size, 0, none⟩) 0 0).ownBlock = some q → q ≠ gu) := Lib.hid (fun q hq e => by
        have : w.heap.size = q := by simpa [Value.ownBlock] using hq
        have s0 := s01.out
        omega)
      clear hgu
      have O2 : Hid (OwnQ _ w.heap.size _ _ 0 (prL A D 0)) := Lib.hid (by rw [P0.out]; exact O1.out)
      clear O1
      go_wp2_with fail
      go_loopg [10, 33] (N + 1) (fun gg s t wr => ∃ k : Nat, k ≤ N + 1 ∧ N + 1 - k ≤ gg ∧ t = .int .i64 k ∧ Hid (∀ j, j < k → K j = true) ∧ Hid (OwnQ wr w.heap.size wr.heap.size s k (prL A D k)) ∧ Hid (UBox wr gu r b x) ∧ Hid (∀ q, s.ownBlock = some q → q ≠ gu) ∧ Hid (Below w.heap.size w wr))
      case atStart => exact ⟨0, by omega, by omega, rfl, Lib.hid (fun j hj => by omega), O2, UB, NQ0, B1⟩
      case round =>
        clear O2 UB NQ0 B1
        obtain ⟨k, hk, hgg, rfl, HA, HO, HU, NQ, HB⟩ := hrel
        obtain ⟨wq, rfl⟩ : ∃ wq : World, wq = wr := ⟨_, rfl⟩
        have szB := HB.out.size
        by_cases hlt : k < N + 1
        · have k1 : (k : Int) < (N : Int) + 1 := by omega
          have k2 : 0 ≤ (k : Int) := by omega
          have k3 : (k : Int) ≤ (N : Int) := by omega
          have CHk := Lib.hid (fun w => CH.out k (by omega) w)
          have CCk := Lib.hid (fun w => CC.out k (by omega) w)
          obtain ⟨c, hc⟩ : ∃ c : Int, c = (chN N k : Nat) := ⟨_, rfl⟩
          rw [← hc] at CHk CCk
          have W1 : IntKind.i64.wrap ((N : Int) - (k : Int)) = (N : Int) - (k : Int) := IntWalk.i64_in _ (by omega)
          clear hc
          cases hok : K k
          · rw [UX.out k hok] at CCk
            obtain ⟨y1, y2, y3⟩ := BN.out k hlt hok
            have Y := Lib.hid (And.intro y1 (And.intro y2 y3))
            clear hok y1 y2 y3
            have HD : Below wq.heap.size wq wq := Below.refl _ _
            have KA : Hid (∀ (V : World) (o : Obj), Below wq.heap.size wq V → Below wq.heap.size wq (V.alloc o)) := Lib.hid (fun V o h => h.alloc h.size o)
            have KN : Hid (∀ (V V' : World), Below wq.heap.size wq V → Below V.heap.size V V' → Below wq.heap.size wq V') := Lib.hid (fun V V' h b => bl_then h b)
            have KC : Hid (∀ V, Below wq.heap.size wq V → V.cell? ⟨gu, 0, none⟩ = some (.int .i64 r) ∧ V.cell? ⟨gu, 1, none⟩ = some (.int .i64 b) ∧ V.cell? ⟨gu, 2, none⟩ = some (.int .i64 x)) := Lib.hid (fun V h => (HU.out.next h).cells)
            have KS : Hid (∀ (V : World) (u v : Value), Below wq.heap.size wq V → Below wq.heap.size wq ((V.setCell ⟨wq.heap.size, 0, none⟩ u).setCell ⟨wq.heap.size, 1, none⟩ v)) := Lib.hid (fun V u v h => bl_st h (Nat.le_refl _) u v)
            obtain ⟨a0, a1, a2⟩ := HU.out.cells
            have ltU := HU.out.lt
            go_upto_region 7 with fail
            go_region_held3 (fun w' => w'.cell? ⟨gu, 0, none⟩ = some (.int .i64 r) ∧ w'.cell? ⟨gu, 1, none⟩ = some (.int .i64 b) ∧ w'.cell? ⟨gu, 2, none⟩ = some (.int .i64 x))
              (first | exact ⟨a0, a1, a2⟩ | exact KC.out _ HD | exact KC.out _ (by assumption) | exact KC.out _ (KA.out _ _ (by assumption)) | exact KC.out _ (KS.out _ _ _ (by assumption)) | go_keep)
              (first
                | (go_at_call 139; (with_reducible refine (CHk.out _).mono ?_); rintro e v1 ⟨rfl, rfl⟩)
                | (go_at_call 138; (with_reducible refine (CCk.out _).mono ?_); rintro e v2 ⟨rfl, b2⟩; (first | (have b2 := un_drewB b2) | skip); (have D2 := KN.out _ _ (by first | exact HD | assumption | exact KA.out _ _ HD) b2); (first | (have Z2 := QBox.below (QBox.new wq 0 0) b2 (by simp); (obtain ⟨⟨c0, c1⟩, f0, f1⟩ := Z2.cells)) | skip); clear b2))
            all_goals
              first
                | (have DF := bl_st D2 (Nat.le_refl _) (.int .i64 0) (.int .i64 0); have QB := QBox.st Z2 0 0; obtain ⟨wB, hwB⟩ : ∃ wB, wB = (v2.setCell ⟨wq.heap.size, 0, none⟩ (.int .i64 0)).setCell ⟨wq.heap.size, 1, none⟩ (.int .i64 0) := ⟨_, rfl⟩; rw [← hwB] at DF QB ⊢; clear hwB)
                | (have DF := D2.alloc D2.size (.cells #[.int .i64 0, .int .i64 0] 26); have QB := QBox.new v2 0 0; obtain ⟨wB, hwB⟩ : ∃ wB, wB = v2.alloc (.cells #[.int .i64 0, .int .i64 0] 26) := ⟨_, rfl⟩; rw [← hwB] at DF QB ⊢; clear hwB)
              have BF := Lib.hid (HB.out.trans (DF.mono HB.out.size))
              clear QB
              go_wp2_with fail
              go_step3
              refine And.intro rfl ?_
              exact ⟨Lib.hid ⟨BF.out, Y.out⟩, _, _, _, _, _, _, _, _, _, _, _, _, _, _, _, _, _, _, _, _, _, _, _, _, _, _, _, _, _, _, _, _, _, _, _, _, _, _, _, _, _, _, _, _, _, _, _, _, _, _, _, _, _, _, _, _, _, rfl⟩
          · rw [UY.out k hok] at CCk
            have IN := Lib.hid (UI.out k hok)
            have PSk := PS.out k
            have HA2 : Hid (∀ j, j < k + 1 → K j = true) := Lib.hid (fun j hj => by
              rcases Nat.lt_or_ge j k with h | h
              · exact HA.out j h
              · obtain rfl : j = k := by omega
                exact hok)
            obtain ⟨Ak, hAk⟩ : ∃ Ak, Ak = A k := ⟨_, rfl⟩
            obtain ⟨Dk, hDk⟩ : ∃ Dk, Dk = D k := ⟨_, rfl⟩
            rw [← hAk, ← hDk] at CCk IN PSk
            obtain ⟨Lk, hLk⟩ : ∃ Lk, Lk = prL A D k := ⟨_, rfl⟩
            rw [← hLk] at HO PSk
            have PE := Lib.hid PSk
            clear hok PSk hAk hDk hLk HA
            have HD : Below wq.heap.size wq wq := Below.refl _ _
            have KA : Hid (∀ (V : World) (o : Obj), Below wq.heap.size wq V → Below wq.heap.size wq (V.alloc o)) := Lib.hid (fun V o h => h.alloc h.size o)
            have KN : Hid (∀ (V V' : World), Below wq.heap.size wq V → Below V.heap.size V V' → Below wq.heap.size wq V') := Lib.hid (fun V V' h b => bl_then h b)
            have KC : Hid (∀ V, Below wq.heap.size wq V → V.cell? ⟨gu, 0, none⟩ = some (.int .i64 r) ∧ V.cell? ⟨gu, 1, none⟩ = some (.int .i64 b) ∧ V.cell? ⟨gu, 2, none⟩ = some (.int .i64 x)) := Lib.hid (fun V h => (HU.out.next h).cells)
            have KS : Hid (∀ (V : World) (u v : Value), Below wq.heap.size wq V → Below wq.heap.size wq ((V.setCell ⟨wq.heap.size, 0, none⟩ u).setCell ⟨wq.heap.size, 1, none⟩ v)) := Lib.hid (fun V u v h => bl_st h (Nat.le_refl _) u v)
            obtain ⟨a0, a1, a2⟩ := HU.out.cells
            have ltU := HU.out.lt
            go_upto_region 7 with fail
            go_region_held3 (fun w' => w'.cell? ⟨gu, 0, none⟩ = some (.int .i64 r) ∧ w'.cell? ⟨gu, 1, none⟩ = some (.int .i64 b) ∧ w'.cell? ⟨gu, 2, none⟩ = some (.int .i64 x))
              (first | exact ⟨a0, a1, a2⟩ | exact KC.out _ HD | exact KC.out _ (by assumption) | exact KC.out _ (KA.out _ _ (by assumption)) | exact KC.out _ (KS.out _ _ _ (by assumption)) | go_keep)
              (first
                | (go_at_call 139; (with_reducible refine (CHk.out _).mono ?_); rintro e v1 ⟨rfl, rfl⟩)
                | (go_at_call 138; (with_reducible refine (CCk.out _).mono ?_); rintro e v2 ⟨rfl, b2⟩; (first | (have b2 := un_drewB b2) | skip); (have D2 := KN.out _ _ (by first | exact HD | assumption | exact KA.out _ _ HD) b2); (first | (have Z2 := QBox.below (QBox.new wq 0 0) b2 (by simp); (obtain ⟨⟨c0, c1⟩, f0, f1⟩ := Z2.cells)) | skip); clear b2))
            all_goals
              first
                | (have DF := bl_st D2 (Nat.le_refl _) (.int .i64 Ak) (.int .i64 Dk); have QB := QBox.st Z2 Ak Dk; obtain ⟨wB, hwB⟩ : ∃ wB, wB = (v2.setCell ⟨wq.heap.size, 0, none⟩ (.int .i64 Ak)).setCell ⟨wq.heap.size, 1, none⟩ (.int .i64 Dk) := ⟨_, rfl⟩; rw [← hwB] at DF QB ⊢; clear hwB)
                | (have DF := D2.alloc D2.size (.cells #[.int .i64 Ak, .int .i64 Dk] 26); have QB := QBox.new v2 Ak Dk; obtain ⟨wB, hwB⟩ : ∃ wB, wB = v2.alloc (.cells #[.int .i64 Ak, .int .i64 Dk] 26) := ⟨_, rfl⟩; rw [← hwB] at DF QB ⊢; clear hwB)
              have s5 := DF.size
              have O5 := Lib.hid ((HO.out.below DF).wide DF.size (Nat.le_refl _))
              have U5 := Lib.hid (HU.out.below DF HU.out.lt)
              have B5 := Lib.hid (HB.out.trans (DF.mono HB.out.size))
              have hown := O5.out.row
              have s6 := B5.out.size
              obtain ⟨⟨q0, q1⟩, _, _⟩ := QB.cells
              go_wp2_with (at_builtin; refine wpList_append_own_at _ rfl _ _ 71 rfl w.heap.size 26 i0 (.agg #[.int .i64 0, .int .i64 0]) 2 16 Try.underlying71 HIF.out hz0 hz1 hz2 rfl (by decide) _ k (Lk.map (.int .i64)) rfl (hown.alloc _) ⟨wB.heap.size, 0, none⟩ 1 1 [.int .i64 Ak, .int .i64 Dk] rfl rfl (cell_two_new _ _ _ _) (fun u hu => by simp at hu; rcases hu with rfl | rfl <;> rfl) (by unfold maxLen; omega) (by omega) (by simp; omega) ?_; intro v' w6 hown6 hgrow6 hnil6 hloc6)
              have U6 := Lib.hid (U5.out.push hgrow6 (fun e => NQ.out gu e rfl))
              have NQ6 : Hid (∀ q, v'.ownBlock = some q → q ≠ gu) := Lib.hid (fun q hq e => by
                rcases hloc6 with h | h
                · exact NQ.out q (h ▸ hq) e
                · rw [h] at hq; injection hq with hq; have := U5.out.lt; simp at hq this; omega)
              have own6 := Lib.hid (O5.out.app IN.out.1 IN.out.2 hown6)
              have B6 := Lib.hid ((B5.out.alloc B5.out.size (.cells #[.int .i64 Ak, .int .i64 Dk] 26)).grown hgrow6 (by have := B5.out.size; simp; omega) (fun q hq => (hown.lt q hq).1))
              clear hown hown6 hgrow6 hnil6 hloc6 O5 U5 B5
              go_wp2_with fail
              go_roundg (N + 1 - (k + 1))
              case rel => exact ⟨k + 1, by omega, by omega, by go_num, HA2, Lib.hid (by rw [PE.out]; exact own6.out), U6, NQ6, B6⟩
              case measure => omega
        · obtain rfl : k = N + 1 := by omega
          have k1 : ¬ ((N + 1 : Nat) : Int) < (N : Int) + 1 := by omega
          have k3 : ¬ ((N + 1 : Nat) : Int) ≤ (N : Int) := by omega
          obtain ⟨y1, y2, y3⟩ := BY.out HA.out
          have Y := Lib.hid (And.intro y1 (And.intro y2 y3))
          have FIN : Hid (∀ o, OwnQ wq w.heap.size wq.heap.size o (N + 1) (prL A D (N + 1)) → NewQB rn rl rk w (.returned (.tuple #[o, .bool true])) wq) := Lib.hid (fun o ho => by rw [Y.out.1, Y.out.2.1, Y.out.2.2]; exact ⟨o, rfl, ho, HB.out⟩)
          clear y1 y2 y3
          go_wp2_with fail
          rw [jump_ret]
          go_ret2
          exact FIN.out _ HO.out
    · obtain ⟨y1, y2⟩ := ct_no (r := r) (b := b) (x := x) (n := n) (by unfold ctOk; rw [decide_eq_false hn, Bool.false_and, Bool.and_false])
      rw [y1, y2, show ctOk r b x n = false by unfold ctOk; rw [decide_eq_false hn, Bool.false_and, Bool.and_false]]
      clear y1 y2
      rw [decide_eq_false hn] at G
      clear hv hn
      go_enter Try.func73, Try.ntmps73
      go_wp2_with fail
      refine wp_scope_jumps 0 (fun a w' => Hid (Below w.heap.size w w' ∧ True) ∧ ∃ t0 t1 t2 t3 t4 t5 t6 t7 t8 t9 t10 t11 t12 t13 t14 t15 t16 t17 t18 t19 t20 t21 t22 t23 t24 t25 t26 t27 t28 t29 t30 t31 t32 t33 t34 t35 t36 t37 t38 t39 t40 t41 t42 t43 t44 t45 t46 t47 t48 t49 t50 t51 t52 t53 t54 t55 t56 : Value, a = { tmps := #[t0, t1, t2, t3, t4, t5, t6, t7, t8, t9, t10, t11, t12, t13, t14, t15, t16, t17, t18, t19, t20, t21, t22, t23, t24, t25, t26, t27, t28, t29, t30, t31, t32, t33, t34, t35, t36, t37, t38, t39, t40, t41, t42, t43, t44, t45, t46, t47, t48, t49, t50, t51, t52, t53, t54, t55, t56], defers := [] }) (fun _ _ => 0) rfl ?_ ?_
      rotate_left
      · intro a w' hJ
        obtain ⟨hF, t0, t1, t2, t3, t4, t5, t6, t7, t8, t9, t10, t11, t12, t13, t14, t15, t16, t17, t18, t19, t20, t21, t22, t23, t24, t25, t26, t27, t28, t29, t30, t31, t32, t33, t34, t35, t36, t37, t38, t39, t40, t41, t42, t43, t44, t45, t46, t47, t48, t49, t50, t51, t52, t53, t54, t55, t56, rfl⟩ := hJ
        clear V
        go_wp2_with fail
        try go_step3
        go_wp2_with fail
        rw [jump_ret]
        go_ret2
        skip
        exact newQ_empty hF.out.1 (by simp)
      go_wp2_with fail
      rw [← hwa]
      clear hwa
      refine (V.out _).mono ?_
      rintro e w1 ⟨rfl, b1⟩
      have O1 := Lib.hid ((O1.out.below b1).wide b1.size (Nat.le_refl _))
      have B1 := Lib.hid (B0.out.trans (b1.mono B0.out.size))
      have s01 := Lib.hid (show w.heap.size + 1 ≤ w1.heap.size by have := b1.size; omega)
      clear b1
      have UB := Lib.hid (UBox.new w1 r b x)
      have B1 := Lib.hid (B1.out.alloc B1.out.size (.cells #[.int .i64 r, .int .i64 b, .int .i64 x] 121))
      have O1 := Lib.hid ((O1.out.below ((Below.refl w1.heap.size w1).alloc (Nat.le_refl _) (.cells #[.int .i64 r, .int .i64 b, .int .i64 x] 121))).wide (by simp) (Nat.le_refl _))
      go_wp2_with fail
      refine (G.out _).mono ?_
      rintro e w2 ⟨rfl, rfl⟩
      go_wp2_with fail
      go_step3
      refine And.intro rfl ?_
      exact ⟨Lib.hid ⟨B1.out, trivial⟩, _, _, _, _, _, _, _, _, _, _, _, _, _, _, _, _, _, _, _, _, _, _, _, _, _, _, _, _, _, _, _, _, _, _, _, _, _, _, _, _, _, _, _, _, _, _, _, _, _, _, _, _, _, _, _, _, _, rfl⟩
set_option maxRecDepth 100000 in
set_option maxHeartbeats 8000000 in
theorem ctS (r b x n : Int) (w : World) (ir : InI64 r) (ib : InI64 b) : Calls Try.prog 72 #[.int .i64 r, .int .i64 b, .int .i64 x, .int .i64 n] w (NewQB (ctN r b x n) (ctL r b x n) (ctOk r b x n) w) := by
  have V := Lib.hid (fun w => urnS r b x w ir ib)
  have G := Lib.hid (fun w => inS n 0 10 w)
  obtain ⟨i0, hif, hz0, hz1, hz2⟩ := info_parts pairInfo
  have HIF := Lib.hid hif
  clear hif
  have O1 := Lib.hid (OwnQ.empty w w.heap.size (Nat.le_refl _))
  have B0 := Lib.hid ((Below.refl w.heap.size w).alloc (Nat.le_refl _) (.cells #[] 26))
  obtain ⟨wa, hwa⟩ : ∃ wa, wa = w.alloc (.cells #[] 26) := ⟨_, rfl⟩
  rw [← hwa] at O1 B0
  have GT : wa.heap.size = w.heap.size + 1 := by rw [hwa]; simp
  cases hv : urOk r b x
  · obtain ⟨y1, y2⟩ := ct_no (r := r) (b := b) (x := x) (n := n) (by unfold ctOk; rw [hv, Bool.false_and])
    rw [y1, y2, show ctOk r b x n = false by unfold ctOk; rw [hv, Bool.false_and]]
    clear y1 y2
    rw [hv] at V
    clear hv
    go_enter Try.func72, Try.ntmps72
    go_wp2_with fail
    rw [← hwa]
    clear hwa
    refine (V.out _).mono ?_
    rintro e w1 ⟨rfl, rfl⟩
    go_wp2_with fail
    go_ret2
    exact ⟨_, rfl, O1.out, B0.out⟩
  · rw [hv] at V
    by_cases hn : 0 ≤ n ∧ n ≤ 10
    · rw [decide_eq_true hn] at G
      obtain ⟨N, rfl⟩ : ∃ N : Nat, n = N := ⟨n.toNat, by omega⟩
      have hN : N ≤ 10 := by omega
      obtain ⟨hr, hbb, hx, hp⟩ := urn_has3 hv
      have CH := Lib.hid (fun j (hj : j ≤ N) w => chooseS N j w (by omega) hj)
      have CC : Hid (∀ j, j ≤ N → ∀ w, Calls Try.prog 135 #[.int .i64 r, .int .i64 b, .int .i64 x, .int .i64 (j : Int), .int .i64 ((N : Int) - (j : Int)), .int .i64 (chN N j : Nat)] w (Gives (chV (ukT r b x N j) (grF (r + b) x) N) w)) := Lib.hid (fun j hj w => by
        have h := chanceS9 r b x (chN N j : Nat) j (N - j) w (by have := ch_pos N (by omega) j (by omega) hj; omega) (by rw [show j + (N - j) = N by omega]; exact Int.le_refl _) hr hbb hx hp (by omega)
        rw [show j + (N - j) = N by omega, show ((N - j : Nat) : Int) = (N : Int) - (j : Int) by omega] at h
        exact h)
      have UY := Lib.hid (fun j (h : ukB r b x N j = true) => uk_yes h)
      have UX := Lib.hid (fun j (h : ukB r b x N j = false) => uk_no h)
      have UI := Lib.hid (fun j (h : ukB r b x N j = true) => uk_in h)
      have BN : Hid (∀ k, k < N + 1 → ukB r b x N k = false → ctN r b x N = 0 ∧ ctL r b x N = [] ∧ ctOk r b x N = false) := Lib.hid (fun k hk h => by
        have e : ctOk r b x N = false := by unfold ctOk; rw [Int.toNat_natCast, all_no hk h, Bool.and_false, Bool.and_false]
        exact ⟨(ct_no e).1, (ct_no e).2, e⟩)
      have BY : Hid ((∀ k, k < N + 1 → ukB r b x N k = true) → ctN r b x N = N + 1 ∧ ctL r b x N = prL (ukN r b x N) (ukD r b x N) (N + 1) ∧ ctOk r b x N = true) := Lib.hid (fun h => by
        have e : ctOk r b x N = true := by unfold ctOk; rw [Int.toNat_natCast, all_yes h, hv, decide_eq_true hn]; rfl
        refine ⟨?_, ?_, e⟩
        · unfold ctN; rw [if_pos e, Int.toNat_natCast]
        · unfold ctL; rw [if_pos e, Int.toNat_natCast])
      obtain ⟨X, hX⟩ : ∃ X : Nat → Value, X = fun j => chV (ukT r b x N j) (grF (r + b) x) N := ⟨_, rfl⟩
      have XD : ∀ j, chV (ukT r b x N j) (grF (r + b) x) N = X j := fun j => by rw [hX]
      simp only [XD] at CC UY UX
      obtain ⟨A, hA⟩ : ∃ A : Nat → Int, A = ukN r b x N := ⟨_, rfl⟩
      obtain ⟨D, hD⟩ : ∃ D : Nat → Int, D = ukD r b x N := ⟨_, rfl⟩
      obtain ⟨K, hK⟩ : ∃ K : Nat → Bool, K = ukB r b x N := ⟨_, rfl⟩
      rw [← hA] at UY UI BY
      rw [← hD] at UY UI BY
      rw [← hK] at UY UX UI BN BY
      obtain ⟨rn, hrn⟩ : ∃ rn, rn = ctN r b x N := ⟨_, rfl⟩
      obtain ⟨rl, hrl⟩ : ∃ rl, rl = ctL r b x N := ⟨_, rfl⟩
      obtain ⟨rk, hrk⟩ : ∃ rk, rk = ctOk r b x N := ⟨_, rfl⟩
      rw [← hrn, ← hrl, ← hrk] at BN BY ⊢
      have P0 := Lib.hid (show prL A D 0 = [] from rfl)
      have PS := Lib.hid (fun k => show prL A D (k + 1) = prL A D k ++ [A k, D k] from rfl)
      clear hv hn hr hbb hx hp hX XD hA hD hK hrn hrl hrk
      go_enter Try.func72, Try.ntmps72
      go_wp2_with fail
      rw [← hwa]
      clear hwa
      refine (V.out _).mono ?_
      rintro e w1 ⟨rfl, rfl⟩
      go_wp2_with fail
      refine (G.out _).mono ?_
      rintro e w2 ⟨rfl, rfl⟩
      have O2 : Hid (OwnQ _ w.heap.size _ _ 0 (prL A D 0)) := Lib.hid (by rw [P0.out]; exact O1.out)
      clear O1
      go_wp2_with fail
      go_loopg [10, 11] (N + 1) (fun gg s t wr => ∃ k : Nat, k ≤ N + 1 ∧ N + 1 - k ≤ gg ∧ t = .int .i64 k ∧ Hid (∀ j, j < k → K j = true) ∧ Hid (OwnQ wr w.heap.size wr.heap.size s k (prL A D k)) ∧ Hid (Below w.heap.size w wr))
      case atStart => exact ⟨0, by omega, by omega, rfl, Lib.hid (fun j hj => by omega), O2, B0⟩
      case round =>
        clear O2 B0
        obtain ⟨k, hk, hgg, rfl, HA, HO, HB⟩ := hrel
        obtain ⟨wq, rfl⟩ : ∃ wq : World, wq = wr := ⟨_, rfl⟩
        have szB := HB.out.size
        by_cases hlt : k < N + 1
        · have k1 : (k : Int) < (N : Int) + 1 := by omega
          have k2 : 0 ≤ (k : Int) := by omega
          have k3 : (k : Int) ≤ (N : Int) := by omega
          have CHk := Lib.hid (fun w => CH.out k (by omega) w)
          have CCk := Lib.hid (fun w => CC.out k (by omega) w)
          obtain ⟨c, hc⟩ : ∃ c : Int, c = (chN N k : Nat) := ⟨_, rfl⟩
          rw [← hc] at CHk CCk
          have W1 : IntKind.i64.wrap ((N : Int) - (k : Int)) = (N : Int) - (k : Int) := IntWalk.i64_in _ (by omega)
          clear hc
          cases hok : K k
          · rw [UX.out k hok] at CCk
            obtain ⟨y1, y2, y3⟩ := BN.out k hlt hok
            have Y := Lib.hid (And.intro y1 (And.intro y2 y3))
            clear hok y1 y2 y3
            go_wp2_with fail
            refine (CHk.out _).mono ?_
            rintro e v1 ⟨rfl, rfl⟩
            go_wp2_with fail
            refine (CCk.out _).mono ?_
            rintro e v2 ⟨rfl, b2⟩
            have BF := Lib.hid ((HB.out.trans (b2.mono HB.out.size)).alloc (Nat.le_trans szB b2.size) (.cells #[.int .i64 0, .int .i64 0] 26))
            clear b2
            go_wp2_with fail
            go_ret2
            rw [Y.out.1, Y.out.2.1, Y.out.2.2]
            exact newQ_empty BF.out (by simp)
          · rw [UY.out k hok] at CCk
            have IN := Lib.hid (UI.out k hok)
            have PSk := PS.out k
            have HA2 : Hid (∀ j, j < k + 1 → K j = true) := Lib.hid (fun j hj => by
              rcases Nat.lt_or_ge j k with h | h
              · exact HA.out j h
              · obtain rfl : j = k := by omega
                exact hok)
            obtain ⟨Ak, hAk⟩ : ∃ Ak, Ak = A k := ⟨_, rfl⟩
            obtain ⟨Dk, hDk⟩ : ∃ Dk, Dk = D k := ⟨_, rfl⟩
            rw [← hAk, ← hDk] at CCk IN PSk
            obtain ⟨Lk, hLk⟩ : ∃ Lk, Lk = prL A D k := ⟨_, rfl⟩
            rw [← hLk] at HO PSk
            have PE := Lib.hid PSk
            clear hok PSk hAk hDk hLk HA
            go_wp2_with fail
            refine (CHk.out _).mono ?_
            rintro e v1 ⟨rfl, rfl⟩
            go_wp2_with fail
            refine (CCk.out _).mono ?_
            rintro e v2 ⟨rfl, b2⟩
            have DF := b2.alloc b2.size (.cells #[.int .i64 Ak, .int .i64 Dk] 26)
            have QB := QBox.new v2 Ak Dk
            go_upto_region 8 with fail
            obtain ⟨wB, hwB⟩ : ∃ wB, wB = v2.alloc (.cells #[.int .i64 Ak, .int .i64 Dk] 26) := ⟨_, rfl⟩
            rw [← hwB] at DF QB ⊢
            clear b2 hwB
            have s5 := DF.size
            have O5 := Lib.hid ((HO.out.below DF).wide DF.size (Nat.le_refl _))
            have B5 := Lib.hid (HB.out.trans (DF.mono HB.out.size))
            have hown := O5.out.row
            have s6 := B5.out.size
            obtain ⟨⟨q0, q1⟩, _, _⟩ := QB.cells
            go_wp2_with (at_builtin; refine wpList_append_own_at _ rfl _ _ 71 rfl w.heap.size 26 i0 (.agg #[.int .i64 0, .int .i64 0]) 2 16 Try.underlying71 HIF.out hz0 hz1 hz2 rfl (by decide) _ k (Lk.map (.int .i64)) rfl (hown.alloc _) ⟨wB.heap.size, 0, none⟩ 1 1 [.int .i64 Ak, .int .i64 Dk] rfl rfl (cell_two_new _ _ _ _) (fun u hu => by simp at hu; rcases hu with rfl | rfl <;> rfl) (by unfold maxLen; omega) (by omega) (by simp; omega) ?_; intro v' w6 hown6 hgrow6 hnil6 hloc6)
            have own6 := Lib.hid (O5.out.app IN.out.1 IN.out.2 hown6)
            have B6 := Lib.hid ((B5.out.alloc B5.out.size (.cells #[.int .i64 Ak, .int .i64 Dk] 26)).grown hgrow6 (by have := B5.out.size; simp; omega) (fun q hq => (hown.lt q hq).1))
            clear hown hown6 hgrow6 hnil6 hloc6 O5 B5
            go_wp2_with fail
            go_roundg (N + 1 - (k + 1))
            case rel => exact ⟨k + 1, by omega, by omega, by go_num, HA2, Lib.hid (by rw [PE.out]; exact own6.out), B6⟩
            case measure => omega
        · obtain rfl : k = N + 1 := by omega
          have k1 : ¬ ((N + 1 : Nat) : Int) < (N : Int) + 1 := by omega
          have k3 : ¬ ((N + 1 : Nat) : Int) ≤ (N : Int) := by omega
          obtain ⟨y1, y2, y3⟩ := BY.out HA.out
          have Y := Lib.hid (And.intro y1 (And.intro y2 y3))
          have FIN : Hid (∀ o, OwnQ wq w.heap.size wq.heap.size o (N + 1) (prL A D (N + 1)) → NewQB rn rl rk w (.returned (.tuple #[o, .bool true])) wq) := Lib.hid (fun o ho => by rw [Y.out.1, Y.out.2.1, Y.out.2.2]; exact ⟨o, rfl, ho, HB.out⟩)
          clear y1 y2 y3
          go_wp2_with fail
          go_ret2
          exact FIN.out _ HO.out
    · obtain ⟨y1, y2⟩ := ct_no (r := r) (b := b) (x := x) (n := n) (by unfold ctOk; rw [decide_eq_false hn, Bool.false_and, Bool.and_false])
      rw [y1, y2, show ctOk r b x n = false by unfold ctOk; rw [decide_eq_false hn, Bool.false_and, Bool.and_false]]
      clear y1 y2
      rw [decide_eq_false hn] at G
      clear hv hn
      go_enter Try.func72, Try.ntmps72
      go_wp2_with fail
      rw [← hwa]
      clear hwa
      refine (V.out _).mono ?_
      rintro e w1 ⟨rfl, rfl⟩
      go_wp2_with fail
      refine (G.out _).mono ?_
      rintro e w2 ⟨rfl, rfl⟩
      go_wp2_with fail
      go_ret2
      exact ⟨_, rfl, O1.out, B0.out⟩
end Go.Proofs.Ytligidmkhbcpmac
