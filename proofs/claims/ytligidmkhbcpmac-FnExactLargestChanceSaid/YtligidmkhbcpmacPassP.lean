/- What is passed down a tree, told by lists. No program is spoken of here. -/
import Derived.Test.YtligidmkhbcpmacWayP
import Derived.Test.YtligidmkhbcpmacDepthP
namespace Go.Proofs.Ytligidmkhbcpmac
set_option linter.unusedVariables false
/-- What is passed down from parents to children, for the first k nodes. -/
def passL (ps : List Int) (a0 : Int) (st : Int → Nat → Int) : Nat → List Int
  | 0 => []
  | k + 1 => passL ps a0 st k ++ [st (if k = 0 then a0 else (passL ps a0 st k).getD (ps.getD k 0).toNat 0) k]
theorem passL_len (ps : List Int) (a0 : Int) (st : Int → Nat → Int) (k : Nat) : (passL ps a0 st k).length = k := by
  induction k with
  | zero => rfl
  | succ k ih => simp [passL, ih]
theorem passL_more (ps : List Int) (a0 : Int) (st : Int → Nat → Int) {j k m : Nat} (h : j < k) (hm : k ≤ m) : (passL ps a0 st m).getD j 0 = (passL ps a0 st k).getD j 0 := by
  induction m with
  | zero => omega
  | succ m ih =>
    rcases Nat.lt_or_ge k (m + 1) with h2 | h2
    · rw [passL, getD_app_left (by rw [passL_len]; omega)]; exact ih (by omega)
    · obtain rfl : k = m + 1 := by omega
      rfl
def passT (ps : List Int) (a0 : Int) (st : Int → Nat → Int) : List Int := passL ps a0 st ps.length
theorem passT_len (ps : List Int) (a0 : Int) (st : Int → Nat → Int) : (passT ps a0 st).length = ps.length := passL_len _ _ _ _
theorem passT_zero (ps : List Int) (a0 : Int) (st : Int → Nat → Int) (h : 1 ≤ ps.length) : (passT ps a0 st).getD 0 0 = st a0 0 := by
  unfold passT
  rw [passL_more ps a0 st (j := 0) (k := 1) (by omega) (by omega)]; rfl
theorem passT_step (ps : List Int) (a0 : Int) (st : Int → Nat → Int) {x : Nat} (h0 : 0 < x) (hx : x < ps.length) (hp : (ps.getD x 0).toNat < x) : (passT ps a0 st).getD x 0 = st ((passT ps a0 st).getD (ps.getD x 0).toNat 0) x := by
  unfold passT
  rw [passL_more ps a0 st (j := x) (k := x + 1) (by omega) (by omega), passL_more ps a0 st (j := (ps.getD x 0).toNat) (k := x) (by omega) (by omega), passL, if_neg (by omega)]
  have := getD_app_right (L := passL ps a0 st x) (x := st ((passL ps a0 st x).getD (ps.getD x 0).toNat 0) x)
  rwa [passL_len] at this
/-- What a node has from above. -/
def abv (ps : List Int) (a0 : Int) (T : List Int) (x : Nat) : Int := if x = 0 then a0 else T.getD (ps.getD x 0).toNat 0
theorem passT_at {ps : List Int} (hp : ParOk ps) (a0 : Int) (st : Int → Nat → Int) {x : Nat} (hx : x < ps.length) : (passT ps a0 st).getD x 0 = st (abv ps a0 (passT ps a0 st) x) x := by
  unfold abv
  by_cases h : x = 0
  · subst h; rw [if_pos rfl, passT_zero ps a0 st (by omega)]
  · rw [if_neg h, passT_step ps a0 st (by omega) hx (par_lt hp (by omega) hx)]
/-- From parents to children. -/
theorem tree_ind {ps : List Int} (hp : ParOk ps) {P : Nat → Prop} (h0 : 0 < ps.length → P 0) (hs : ∀ x, 0 < x → x < ps.length → P (ps.getD x 0).toNat → P x) : ∀ x, x < ps.length → P x := by
  intro x
  induction x using Nat.strongRecOn with
  | ind x ih =>
    intro hx
    by_cases h : x = 0
    · subst h; exact h0 hx
    · have hl := par_lt hp (by omega) hx
      exact hs x (by omega) hx (ih _ hl (by omega))
/-- From ends upwards. -/
theorem down_ind {ps ws : List Int} (g : Good ps ws) {P : Nat → Prop} (hl : ∀ x, x < ps.length → leafB ps x = true → P x) (hs : ∀ x y, x < ps.length → y < ps.length → 0 < y → (ps.getD y 0).toNat = x → P y → P x) : ∀ x, x < ps.length → P x := by
  have key : ∀ m x, ps.length - x = m → x < ps.length → P x := by
    intro m
    induction m using Nat.strongRecOn with
    | ind m ih =>
      intro x hm hx
      cases h : leafB ps x
      · obtain ⟨y, hy, e⟩ := (leafB_false ps x).1 h
        have hgt := g.kid_gt hy e
        exact hs x y hx hy (by omega) (by omega) (ih (ps.length - y) (by omega) y rfl hy)
      · exact hl x hx h
  intro x hx
  exact key _ x rfl hx
end Go.Proofs.Ytligidmkhbcpmac
