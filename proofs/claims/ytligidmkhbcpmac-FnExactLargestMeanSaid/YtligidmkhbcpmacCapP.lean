/- Caps of a game, told by lists. No program is spoken of here. -/
import Derived.Test.YtligidmkhbcpmacKidF
import Derived.Test.YtligidmkhbcpmacProcI
import Derived.Test.YtligidmkhbcpmacEvP
namespace Go.Proofs.Ytligidmkhbcpmac
open Go.RowKit
set_option linter.unusedVariables false
/-- The sum of the numbers of the children. -/
def kidT (ps V : List Int) (x : Nat) : Int := sumTo (kidL ps V x) ps.length
/-- What each node has got from its children below a number. -/
def gonL (ps V : List Int) (k : Nat) : List Int := (List.range ps.length).map fun x => sumTo (kidL ps V x) k
theorem gonL_len (ps V : List Int) (k : Nat) : (gonL ps V k).length = ps.length := by simp [gonL]
theorem gonL_at {ps V : List Int} {k x : Nat} (hx : x < ps.length) : (gonL ps V k).getD x 0 = sumTo (kidL ps V x) k := by
  unfold gonL
  rw [List.getD_eq_getElem?_getD, List.getElem?_map, List.getElem?_range hx]; rfl
theorem gonL_all {ps V : List Int} {x : Nat} (hx : x < ps.length) : (gonL ps V ps.length).getD x 0 = kidT ps V x := gonL_at hx
theorem gonL_one {ps V : List Int} (h0 : ps.getD 0 0 = -1) (h1 : 1 ≤ ps.length) : gonL ps V 1 = List.replicate ps.length 0 := by
  apply List.ext_getElem
  · rw [gonL_len, List.length_replicate]
  · intro i h2 h3
    simp only [gonL, List.getElem_map, List.getElem_range, List.getElem_replicate]
    rw [sumTo, sumTo, kidL_at (by omega), h0, if_neg (by omega)]; rfl
theorem gonL_set {ps V : List Int} {k j : Nat} (hk : k < ps.length) (hj : ps.getD k 0 = (j : Int)) (hjn : j < ps.length) :
    (gonL ps V k).set j ((gonL ps V k).getD j 0 + V.getD k 0) = gonL ps V (k + 1) := by
  apply List.ext_getElem
  · rw [List.length_set, gonL_len, gonL_len]
  · intro i h1 h2
    rw [List.getElem_set]
    by_cases h : j = i
    · subst h
      rw [if_pos rfl, gonL_at hjn]
      simp only [gonL, List.getElem_map, List.getElem_range]
      rw [sumTo, kidL_at hk, if_pos hj]
    · rw [if_neg h]
      simp only [gonL, List.getElem_map, List.getElem_range]
      rw [sumTo, kidL_at hk, if_neg (by rw [hj]; omega), Int.add_zero]
theorem kid_bd {ps V : List Int} {B : Nat} (h : ∀ y, y < ps.length → (V.getD y 0).natAbs ≤ B) (x : Nat) {k : Nat} (hk : k ≤ ps.length) : (sumTo (kidL ps V x) k).natAbs ≤ k * B := by
  refine sumTo_bound k (fun y hy => ?_)
  rw [kidL_at (by omega)]
  split
  · exact h y (by omega)
  · simp
theorem kidT_congr {ps V U : List Int} {x : Nat} (h : ∀ y, y < ps.length → ps.getD y 0 = (x : Int) → V.getD y 0 = U.getD y 0) : kidT ps V x = kidT ps U x := by
  unfold kidT
  refine sumTo_congr _ (fun y hy => ?_)
  rw [kidL_at hy, kidL_at hy]
  by_cases e : ps.getD y 0 = (x : Int)
  · rw [if_pos e, if_pos e, h y hy e]
  · rw [if_neg e, if_neg e]
/-- What the model adds up. -/
theorem kid_model (ps V : List Int) (x : Nat) : kidF (fun y => V.getD y 0) (kidsT ps (x : Int)) = kidT ps V x := by
  rw [kidsT_eq, kidF_nodes _ _ ps.length ps.length (Nat.le_refl _)]
  unfold kidT
  refine sumTo_congr _ (fun y hy => ?_)
  rw [kidL_at hy, List.getD_eq_getElem?_getD, List.getElem?_map, List.getElem?_range hy]
  show (if (ps.getD y 0 == (x : Int)) = true then V.getD y 0 else 0) = _
  by_cases e : ps.getD y 0 = (x : Int)
  · rw [if_pos e, if_pos (by simpa using e)]
  · rw [if_neg e, if_neg (by simpa using e)]
/-- The caps of nodes at which a game is stopped. -/
def ownT (su zs : List Int) (n : Nat) : List Int := (List.range n).map fun x => su.getD x 0 * zs.getD x 0
theorem ownT_len (su zs : List Int) (n : Nat) : (ownT su zs n).length = n := by simp [ownT]
theorem ownT_at {su zs : List Int} {n x : Nat} (hx : x < n) : (ownT su zs n).getD x 0 = su.getD x 0 * zs.getD x 0 := by
  unfold ownT
  rw [List.getD_eq_getElem?_getD, List.getElem?_map, List.getElem?_range hx]; rfl
/-- A cap, from those of the children. -/
def capX (ps own C : List Int) (x : Nat) : Int := if leafB ps x = true then own.getD x 0 else max (own.getD x 0) (kidT ps C x)
def capS (ps own C : List Int) : List Int := (List.range ps.length).map fun x => capX ps own C x
theorem capS_len (ps own C : List Int) : (capS ps own C).length = ps.length := by simp [capS]
theorem capS_at {ps own C : List Int} {x : Nat} (hx : x < ps.length) : (capS ps own C).getD x 0 = capX ps own C x := by
  unfold capS
  rw [List.getD_eq_getElem?_getD, List.getElem?_map, List.getElem?_range hx]; rfl
/-- The caps if the game must be stopped within some steps. -/
def capN (ps own : List Int) : Nat → List Int
  | 0 => own
  | k + 1 => capS ps own (capN ps own k)
theorem capN_len {ps own : List Int} (h : own.length = ps.length) : ∀ k, (capN ps own k).length = ps.length
  | 0 => h
  | k + 1 => capS_len _ _ _
theorem capN_leaf {ps own : List Int} {x : Nat} (hx : x < ps.length) (hl : leafB ps x = true) : ∀ k, (capN ps own k).getD x 0 = own.getD x 0
  | 0 => rfl
  | k + 1 => by
    show (capS ps own (capN ps own k)).getD x 0 = _
    rw [capS_at hx]; unfold capX; rw [if_pos hl]
theorem capX_congr {ps ws own C D : List Int} (g : Good ps ws) {x : Nat} (h : ∀ y, y < ps.length → x < y → C.getD y 0 = D.getD y 0) : capX ps own C x = capX ps own D x := by
  unfold capX
  rw [kidT_congr (fun y hy e => h y hy (g.kid_gt hy e))]
/-- What holds of a list at each node holds of no other one. -/
theorem cap_fix {ps ws own C : List Int} (g : Good ps ws) (hC : ∀ x, x < ps.length → C.getD x 0 = capX ps own C x) : ∀ k x, x < ps.length → ps.length ≤ x + k + 1 → C.getD x 0 = (capN ps own k).getD x 0 := by
  intro k
  induction k with
  | zero =>
    intro x hx h
    rw [hC x hx]
    have hl : leafB ps x = true := by
      rw [leafB_iff]
      intro y hy e
      have := g.kid_gt hy e
      omega
    unfold capX
    rw [if_pos hl]; rfl
  | succ k ih =>
    intro x hx h
    rw [hC x hx]
    show _ = (capS ps own (capN ps own k)).getD x 0
    rw [capS_at hx]
    exact capX_congr g (fun y hy hxy => ih y hy (by omega))
def capT (ps own : List Int) : List Int := capN ps own 24
theorem list_eq {A B : List Int} {n : Nat} (ha : A.length = n) (hb : B.length = n) (h : ∀ x, x < n → A.getD x 0 = B.getD x 0) : A = B := by
  apply List.ext_getElem
  · rw [ha, hb]
  · intro i h1 h2
    have := h i (by omega)
    rw [List.getD_eq_getElem?_getD, List.getElem?_eq_getElem h1, List.getD_eq_getElem?_getD, List.getElem?_eq_getElem h2] at this
    exact this
theorem cap_all {ps ws own : List Int} (g : Good ps ws) (ho : own.length = ps.length) {x : Nat} (hx : x < ps.length) : (capT ps own).getD x 0 = capX ps own (capT ps own) x := by
  have key : ∀ k x, x < ps.length → ps.length ≤ x + k + 1 → (capN ps own (k + 1)).getD x 0 = (capN ps own k).getD x 0 := by
    intro k
    induction k with
    | zero =>
      intro x hx h
      have hl : leafB ps x = true := by
        rw [leafB_iff]
        intro y hy e
        have := g.kid_gt hy e
        omega
      rw [capN_leaf hx hl, capN_leaf hx hl]
    | succ k ih =>
      intro x hx h
      show (capS ps own (capN ps own (k + 1))).getD x 0 = (capS ps own (capN ps own k)).getD x 0
      rw [capS_at hx, capS_at hx]
      exact capX_congr g (fun y hy hxy => ih y hy (by omega))
  have h24 := g.n24
  have e := key 24 x hx (by omega)
  unfold capT
  rw [← e]
  show (capS ps own (capN ps own 24)).getD x 0 = _
  rw [capS_at hx]
/-- The caps of the nodes from a number on, the others 0. -/
def hiL (C : List Int) (n m : Nat) : List Int := (List.range n).map fun y => if m ≤ y then C.getD y 0 else 0
theorem hiL_len (C : List Int) (n m : Nat) : (hiL C n m).length = n := by simp [hiL]
theorem hiL_at {C : List Int} {n m y : Nat} (hy : y < n) : (hiL C n m).getD y 0 = if m ≤ y then C.getD y 0 else 0 := by
  unfold hiL
  rw [List.getD_eq_getElem?_getD, List.getElem?_map, List.getElem?_range hy]; rfl
theorem hiL_top (C : List Int) (n : Nat) : hiL C n n = List.replicate n 0 := by
  apply List.ext_getElem
  · rw [hiL_len, List.length_replicate]
  · intro i h2 h3
    simp only [hiL, List.getElem_map, List.getElem_range, List.getElem_replicate]
    rw [if_neg (by rw [hiL_len] at h2; omega)]
theorem hiL_zero {C : List Int} {n : Nat} (h : C.length = n) : hiL C n 0 = C := list_eq (hiL_len _ _ _) h (fun x hx => by rw [hiL_at hx, if_pos (by omega)])
theorem hiL_set {C : List Int} {n m : Nat} (hm : m < n) : (hiL C n (m + 1)).set m (C.getD m 0) = hiL C n m := by
  refine list_eq (n := n) (by rw [List.length_set, hiL_len]) (hiL_len _ _ _) (fun y hy => ?_)
  rw [hiL_at hy]
  by_cases h : m = y
  · subst h
    rw [getD_set_same (by rw [hiL_len]; exact hy), if_pos (by omega)]
  · rw [getD_set_other (by omega), hiL_at hy]
    by_cases h2 : m + 1 ≤ y
    · rw [if_pos h2, if_pos (by omega)]
    · rw [if_neg h2, if_neg (by omega)]
theorem hiL_kid {ps ws C : List Int} (g : Good ps ws) {x : Nat} : kidT ps (hiL C ps.length (x + 1)) x = kidT ps C x := kidT_congr fun y hy e => by
  have := g.kid_gt hy e
  rw [hiL_at hy, if_pos (by omega)]
theorem hiL_kid2 {ps ws C : List Int} (g : Good ps ws) {x : Nat} (z : Int) : kidT ps ((hiL C ps.length (x + 1)).set x z) x = kidT ps C x := kidT_congr fun y hy e => by
  have := g.kid_gt hy e
  rw [getD_set_other (by omega), hiL_at hy, if_pos (by omega)]
/-- Caps are as small as the sums allow. -/
theorem sumTo_scale {L M : List Int} {c : Nat} : ∀ k : Nat, (∀ y, y < k → ((L.getD y 0).natAbs : Int) ≤ c * M.getD y 0) → ((sumTo L k).natAbs : Int) ≤ c * sumTo M k := by
  intro k
  induction k with
  | zero => intro _; simp [sumTo]
  | succ k ih =>
    intro h
    have h1 := ih (fun y hy => h y (by omega))
    have h2 := h k (by omega)
    rw [sumTo, sumTo, Int.mul_add]
    omega
theorem capX_bd {ps ws own C : List Int} (g : Good ps ws) (ho : ∀ y, y < ps.length → ((own.getD y 0).natAbs : Int) ≤ (999 : Nat) * (sumsT ps ws).getD y 0) {x : Nat} (hx : x < ps.length)
    (h : ∀ y, y < ps.length → ((C.getD y 0).natAbs : Int) ≤ (999 : Nat) * (sumsT ps ws).getD y 0) : ((capX ps own C x).natAbs : Int) ≤ (999 : Nat) * (sumsT ps ws).getD x 0 := by
  have h1 := ho x hx
  unfold capX
  split
  · exact h1
  · have h2 := sumTo_scale (L := kidL ps C x) (M := kidL ps (sumsT ps ws) x) (c := 999) ps.length (fun y hy => by
      rw [kidL_at hy, kidL_at hy]
      split
      · exact h y hy
      · simp)
    have h3 := sums_kids g hx
    have h4 := g.w_bd hx
    unfold kidT
    omega
theorem capN_bd {ps ws own : List Int} (g : Good ps ws) (ho : ∀ y, y < ps.length → ((own.getD y 0).natAbs : Int) ≤ (999 : Nat) * (sumsT ps ws).getD y 0) : ∀ k x, x < ps.length → ((capN ps own k).getD x 0).natAbs ≤ (999 : Nat) * (sumsT ps ws).getD x 0
  | 0 => ho
  | k + 1 => fun x hx => by
    show (((capS ps own (capN ps own k)).getD x 0).natAbs : Int) ≤ _
    rw [capS_at hx]
    exact capX_bd g ho hx (capN_bd g ho k)
theorem own_bd {ps ws zs : List Int} (p : Proc ps ws zs) : ∀ y, y < ps.length → (((ownT (sumsT ps ws) zs ps.length).getD y 0).natAbs : Int) ≤ (999 : Nat) * (sumsT ps ws).getD y 0 := by
  intro y hy
  rw [ownT_at hy]
  have h1 := sumsT_bd p.good y hy
  have h2 := p.bd y (by have := p.len; omega)
  rw [Int.natAbs_mul]
  have h3 : ((sumsT ps ws).getD y 0).natAbs * (zs.getD y 0).natAbs ≤ ((sumsT ps ws).getD y 0).natAbs * 999 := Nat.mul_le_mul_left _ (by omega)
  have h0 := sums_nonneg p.good y
  have h4 : (((sumsT ps ws).getD y 0).natAbs : Int) = (sumsT ps ws).getD y 0 := by omega
  have h5 : ((((sumsT ps ws).getD y 0).natAbs * 999 : Nat) : Int) = 999 * (sumsT ps ws).getD y 0 := by rw [Int.natCast_mul, h4]; omega
  omega
theorem cap_small {ps ws zs : List Int} (p : Proc ps ws zs) (k : Nat) {x : Nat} (hx : x < ps.length) : -479520 ≤ (capN ps (ownT (sumsT ps ws) zs ps.length) k).getD x 0 ∧ (capN ps (ownT (sumsT ps ws) zs ps.length) k).getD x 0 ≤ 479520 := by
  have h1 := capN_bd p.good (own_bd p) k x hx
  have h2 := sumsT_bd p.good x hx
  omega
theorem own_small {ps ws zs : List Int} (p : Proc ps ws zs) {x : Nat} (hx : x < ps.length) : -479520 ≤ (sumsT ps ws).getD x 0 * zs.getD x 0 ∧ (sumsT ps ws).getD x 0 * zs.getD x 0 ≤ 479520 := by
  have := cap_small p 0 hx
  rwa [show capN ps (ownT (sumsT ps ws) zs ps.length) 0 = ownT (sumsT ps ws) zs ps.length from rfl, ownT_at hx] at this
theorem kid_small {ps ws zs : List Int} (p : Proc ps ws zs) (k : Nat) (x : Nat) {m : Nat} (hm : m ≤ ps.length) : -11508480 ≤ sumTo (kidL ps (capN ps (ownT (sumsT ps ws) zs ps.length) k) x) m ∧ sumTo (kidL ps (capN ps (ownT (sumsT ps ws) zs ps.length) k) x) m ≤ 11508480 := by
  have h := kid_bd (V := capN ps (ownT (sumsT ps ws) zs ps.length) k) (B := 479520) (fun y hy => by have := cap_small p k hy; omega) x hm
  have h24 := p.good.n24
  have : m * 479520 ≤ 24 * 479520 := Nat.mul_le_mul_right _ (by omega)
  omega
end Go.Proofs.Ytligidmkhbcpmac
