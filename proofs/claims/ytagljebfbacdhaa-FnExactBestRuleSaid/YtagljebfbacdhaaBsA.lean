/- KidF, CapP, Kid4, GamI, GonI, CapI, LeaI, CapM in one text. -/
import Derived.Test.YtagljebfbacdhaaKidSum
import Derived.Test.YtagljebfbacdhaaProcI
import Derived.Test.YtagljebfbacdhaaEvP
import Derived.Test.YtagljebfbacdhaaRow
import Derived.Test.YtagljebfbacdhaaGoodS
import Derived.Test.YtagljebfbacdhaaPBox
import Derived.Test.YtagljebfbacdhaaVBox
import Derived.Test.YtagljebfbacdhaaEnds
import Derived.Test.YtagljebfbacdhaaNodes
import Derived.Test.YtagljebfbacdhaaMBt
import Derived.Test.YtagljebfbacdhaaPay4
import Derived.Deep.LoopGhost
import Derived.BigQuiet
import Derived.IntWalk
namespace Go.Proofs.Ytagljebfbacdhaa
open Go.RowKit
set_option linter.unusedVariables false
theorem sumTo_bound {L : List Int} {B : Nat} : ∀ k : Nat, (∀ y, y < k → (L.getD y 0).natAbs ≤ B) → (sumTo L k).natAbs ≤ k * B := by
  intro k
  induction k with
  | zero => intro _; simp [sumTo]
  | succ k ih =>
    intro h
    have h1 := ih (fun y hy => h y (by omega))
    have h2 := h k (by omega)
    rw [sumTo, Nat.succ_mul]
    omega
/-- What the model gathers from the children. -/
def kidF (f : Nat → Int) (L : List Int) : Int := L.foldl (fun a y => a + f y.toNat) 0
theorem kidF_app (f : Nat → Int) (L : List Int) (z : Int) : kidF f (L ++ [z]) = kidF f L + f z.toNat := by
  unfold kidF; rw [List.foldl_append]; rfl
theorem kidF_take (f : Nat → Int) {L : List Int} {k : Nat} (h : k < L.length) : kidF f (L.take (k + 1)) = kidF f (L.take k) + f (L.getD k 0).toNat := by
  rw [List.take_succ_eq_append_getElem h, kidF_app, List.getD_eq_getElem?_getD, List.getElem?_eq_getElem h]; rfl
theorem kidF_all (f : Nat → Int) {L : List Int} {k : Nat} (h : L.length ≤ k) : kidF f (L.take k) = kidF f L := by rw [List.take_of_length_le h]
theorem kidF_bd {f : Nat → Int} {L : List Int} {B : Nat} (hb : ∀ z ∈ L, (f z.toNat).natAbs ≤ B) : ∀ k, k ≤ L.length → (kidF f (L.take k)).natAbs ≤ k * B := by
  intro k
  induction k with
  | zero => intro _; simp [kidF]
  | succ k ih =>
    intro h
    have h1 := ih (by omega)
    have h2 := hb (L.getD k 0) (by
      rw [List.getD_eq_getElem?_getD, List.getElem?_eq_getElem (by omega)]
      exact List.getElem_mem _)
    rw [kidF_take f (by omega), Nat.succ_mul]
    omega
theorem kidF_nodes (f : Nat → Int) (p : Nat → Bool) (m : Nat) : ∀ n, n ≤ m → kidF f (nodesW p n) = sumTo ((List.range m).map fun y => if p y = true then f y else 0) n := by
  intro n
  induction n with
  | zero => intro _; rfl
  | succ n ih =>
    intro h
    have h1 := ih (by omega)
    have hat : ((List.range m).map fun y => if p y = true then f y else 0).getD n 0 = if p n = true then f n else 0 := by
      rw [List.getD_eq_getElem?_getD, List.getElem?_map, List.getElem?_range (by omega)]; rfl
    rw [sumTo, hat]
    cases hp : p n
    · rw [nodesW_no hp, h1]; simp
    · rw [nodesW_yes hp, kidF_app, h1, Int.toNat_natCast]; simp
end Go.Proofs.Ytagljebfbacdhaa
namespace Go.Proofs.Ytagljebfbacdhaa
open Go.RowKit
set_option linter.unusedVariables false
/-- The sum of the numbers of the children. -/
def kidT (ps V : List Int) (x : Nat) : Int := sumTo (kidL ps V x) ps.length
/-- What each node has got from its children below a number. -/
def gonL (ps V : List Int) (k : Nat) : List Int := (List.range ps.length).map fun x => sumTo (kidL ps V x) k
theorem gonL_len (ps V : List Int) (k : Nat) : (gonL ps V k).length = ps.length := by simp [gonL]
theorem gonL_at {ps V : List Int} {k x : Nat} (hx : x < ps.length) : (gonL ps V k).getD x 0 = sumTo (kidL ps V x) k := by
  unfold gonL
  rw [List.getD_eq_getElem?_getD, List.getElem?_map, List.getElem?_range hx]; rfl
theorem gonL_all {ps V : List Int} {x : Nat} (hx : x < ps.length) : (gonL ps V ps.length).getD x 0 = kidT ps V x := gonL_at hx
theorem gonL_one {ps V : List Int} (h0 : ps.getD 0 0 = -1) (h1 : 1 ≤ ps.length) : gonL ps V 1 = List.replicate ps.length 0 := by
  apply List.ext_getElem
  · rw [gonL_len, List.length_replicate]
  · intro i h2 h3
    simp only [gonL, List.getElem_map, List.getElem_range, List.getElem_replicate]
    rw [sumTo, sumTo, kidL_at (by omega), h0, if_neg (by omega)]; rfl
theorem gonL_set {ps V : List Int} {k j : Nat} (hk : k < ps.length) (hj : ps.getD k 0 = (j : Int)) (hjn : j < ps.length) :
    (gonL ps V k).set j ((gonL ps V k).getD j 0 + V.getD k 0) = gonL ps V (k + 1) := by
  apply List.ext_getElem
  · rw [List.length_set, gonL_len, gonL_len]
  · intro i h1 h2
    rw [List.getElem_set]
    by_cases h : j = i
    · subst h
      rw [if_pos rfl, gonL_at hjn]
      simp only [gonL, List.getElem_map, List.getElem_range]
      rw [sumTo, kidL_at hk, if_pos hj]
    · rw [if_neg h]
      simp only [gonL, List.getElem_map, List.getElem_range]
      rw [sumTo, kidL_at hk, if_neg (by rw [hj]; omega), Int.add_zero]
theorem kid_bd {ps V : List Int} {B : Nat} (h : ∀ y, y < ps.length → (V.getD y 0).natAbs ≤ B) (x : Nat) {k : Nat} (hk : k ≤ ps.length) : (sumTo (kidL ps V x) k).natAbs ≤ k * B := by
  refine sumTo_bound k (fun y hy => ?_)
  rw [kidL_at (by omega)]
  split
  · exact h y (by omega)
  · simp
theorem kidT_congr {ps V U : List Int} {x : Nat} (h : ∀ y, y < ps.length → ps.getD y 0 = (x : Int) → V.getD y 0 = U.getD y 0) : kidT ps V x = kidT ps U x := by
  unfold kidT
  refine sumTo_congr _ (fun y hy => ?_)
  rw [kidL_at hy, kidL_at hy]
  by_cases e : ps.getD y 0 = (x : Int)
  · rw [if_pos e, if_pos e, h y hy e]
  · rw [if_neg e, if_neg e]
/-- What the model adds up. -/
theorem kid_model (ps V : List Int) (x : Nat) : kidF (fun y => V.getD y 0) (kidsT ps (x : Int)) = kidT ps V x := by
  rw [kidsT_eq, kidF_nodes _ _ ps.length ps.length (Nat.le_refl _)]
  unfold kidT
  refine sumTo_congr _ (fun y hy => ?_)
  rw [kidL_at hy, List.getD_eq_getElem?_getD, List.getElem?_map, List.getElem?_range hy]
  show (if (ps.getD y 0 == (x : Int)) = true then V.getD y 0 else 0) = _
  by_cases e : ps.getD y 0 = (x : Int)
  · rw [if_pos e, if_pos (by simpa using e)]
  · rw [if_neg e, if_neg (by simpa using e)]
/-- The caps of nodes at which a game is stopped. -/
def ownT (su zs : List Int) (n : Nat) : List Int := (List.range n).map fun x => su.getD x 0 * zs.getD x 0
theorem ownT_len (su zs : List Int) (n : Nat) : (ownT su zs n).length = n := by simp [ownT]
theorem ownT_at {su zs : List Int} {n x : Nat} (hx : x < n) : (ownT su zs n).getD x 0 = su.getD x 0 * zs.getD x 0 := by
  unfold ownT
  rw [List.getD_eq_getElem?_getD, List.getElem?_map, List.getElem?_range hx]; rfl
/-- A cap, from those of the children. -/
def capX (ps own C : List Int) (x : Nat) : Int := if leafB ps x = true then own.getD x 0 else max (own.getD x 0) (kidT ps C x)
def capS (ps own C : List Int) : List Int := (List.range ps.length).map fun x => capX ps own C x
theorem capS_len (ps own C : List Int) : (capS ps own C).length = ps.length := by simp [capS]
theorem capS_at {ps own C : List Int} {x : Nat} (hx : x < ps.length) : (capS ps own C).getD x 0 = capX ps own C x := by
  unfold capS
  rw [List.getD_eq_getElem?_getD, List.getElem?_map, List.getElem?_range hx]; rfl
/-- The caps if the game must be stopped within some steps. -/
def capN (ps own : List Int) : Nat → List Int
  | 0 => own
  | k + 1 => capS ps own (capN ps own k)
theorem capN_len {ps own : List Int} (h : own.length = ps.length) : ∀ k, (capN ps own k).length = ps.length
  | 0 => h
  | k + 1 => capS_len _ _ _
theorem capN_leaf {ps own : List Int} {x : Nat} (hx : x < ps.length) (hl : leafB ps x = true) : ∀ k, (capN ps own k).getD x 0 = own.getD x 0
  | 0 => rfl
  | k + 1 => by
    show (capS ps own (capN ps own k)).getD x 0 = _
    rw [capS_at hx]; unfold capX; rw [if_pos hl]
theorem capX_congr {ps ws own C D : List Int} (g : Good ps ws) {x : Nat} (h : ∀ y, y < ps.length → x < y → C.getD y 0 = D.getD y 0) : capX ps own C x = capX ps own D x := by
  unfold capX
  rw [kidT_congr (fun y hy e => h y hy (g.kid_gt hy e))]
/-- What holds of a list at each node holds of no other one. -/
theorem cap_fix {ps ws own C : List Int} (g : Good ps ws) (hC : ∀ x, x < ps.length → C.getD x 0 = capX ps own C x) : ∀ k x, x < ps.length → ps.length ≤ x + k + 1 → C.getD x 0 = (capN ps own k).getD x 0 := by
  intro k
  induction k with
  | zero =>
    intro x hx h
    rw [hC x hx]
    have hl : leafB ps x = true := by
      rw [leafB_iff]
      intro y hy e
      have := g.kid_gt hy e
      omega
    unfold capX
    rw [if_pos hl]; rfl
  | succ k ih =>
    intro x hx h
    rw [hC x hx]
    show _ = (capS ps own (capN ps own k)).getD x 0
    rw [capS_at hx]
    exact capX_congr g (fun y hy hxy => ih y hy (by omega))
def capT (ps own : List Int) : List Int := capN ps own 24
theorem list_eq {A B : List Int} {n : Nat} (ha : A.length = n) (hb : B.length = n) (h : ∀ x, x < n → A.getD x 0 = B.getD x 0) : A = B := by
  apply List.ext_getElem
  · rw [ha, hb]
  · intro i h1 h2
    have := h i (by omega)
    rw [List.getD_eq_getElem?_getD, List.getElem?_eq_getElem h1, List.getD_eq_getElem?_getD, List.getElem?_eq_getElem h2] at this
    exact this
theorem cap_all {ps ws own : List Int} (g : Good ps ws) (ho : own.length = ps.length) {x : Nat} (hx : x < ps.length) : (capT ps own).getD x 0 = capX ps own (capT ps own) x := by
  have key : ∀ k x, x < ps.length → ps.length ≤ x + k + 1 → (capN ps own (k + 1)).getD x 0 = (capN ps own k).getD x 0 := by
    intro k
    induction k with
    | zero =>
      intro x hx h
      have hl : leafB ps x = true := by
        rw [leafB_iff]
        intro y hy e
        have := g.kid_gt hy e
        omega
      rw [capN_leaf hx hl, capN_leaf hx hl]
    | succ k ih =>
      intro x hx h
      show (capS ps own (capN ps own (k + 1))).getD x 0 = (capS ps own (capN ps own k)).getD x 0
      rw [capS_at hx, capS_at hx]
      exact capX_congr g (fun y hy hxy => ih y hy (by omega))
  have h24 := g.n24
  have e := key 24 x hx (by omega)
  unfold capT
  rw [← e]
  show (capS ps own (capN ps own 24)).getD x 0 = _
  rw [capS_at hx]
/-- The caps of the nodes from a number on, the others 0. -/
def hiL (C : List Int) (n m : Nat) : List Int := (List.range n).map fun y => if m ≤ y then C.getD y 0 else 0
theorem hiL_len (C : List Int) (n m : Nat) : (hiL C n m).length = n := by simp [hiL]
theorem hiL_at {C : List Int} {n m y : Nat} (hy : y < n) : (hiL C n m).getD y 0 = if m ≤ y then C.getD y 0 else 0 := by
  unfold hiL
  rw [List.getD_eq_getElem?_getD, List.getElem?_map, List.getElem?_range hy]; rfl
theorem hiL_top (C : List Int) (n : Nat) : hiL C n n = List.replicate n 0 := by
  apply List.ext_getElem
  · rw [hiL_len, List.length_replicate]
  · intro i h2 h3
    simp only [hiL, List.getElem_map, List.getElem_range, List.getElem_replicate]
    rw [if_neg (by rw [hiL_len] at h2; omega)]
theorem hiL_zero {C : List Int} {n : Nat} (h : C.length = n) : hiL C n 0 = C := list_eq (hiL_len _ _ _) h (fun x hx => by rw [hiL_at hx, if_pos (by omega)])
theorem hiL_set {C : List Int} {n m : Nat} (hm : m < n) : (hiL C n (m + 1)).set m (C.getD m 0) = hiL C n m := by
  refine list_eq (n := n) (by rw [List.length_set, hiL_len]) (hiL_len _ _ _) (fun y hy => ?_)
  rw [hiL_at hy]
  by_cases h : m = y
  · subst h
    rw [getD_set_same (by rw [hiL_len]; exact hy), if_pos (by omega)]
  · rw [getD_set_other (by omega), hiL_at hy]
    by_cases h2 : m + 1 ≤ y
    · rw [if_pos h2, if_pos (by omega)]
    · rw [if_neg h2, if_neg (by omega)]
theorem hiL_kid {ps ws C : List Int} (g : Good ps ws) {x : Nat} : kidT ps (hiL C ps.length (x + 1)) x = kidT ps C x := kidT_congr fun y hy e => by
  have := g.kid_gt hy e
  rw [hiL_at hy, if_pos (by omega)]
theorem hiL_kid2 {ps ws C : List Int} (g : Good ps ws) {x : Nat} (z : Int) : kidT ps ((hiL C ps.length (x + 1)).set x z) x = kidT ps C x := kidT_congr fun y hy e => by
  have := g.kid_gt hy e
  rw [getD_set_other (by omega), hiL_at hy, if_pos (by omega)]
/-- Caps are as small as the sums allow. -/
theorem sumTo_scale {L M : List Int} {c : Nat} : ∀ k : Nat, (∀ y, y < k → ((L.getD y 0).natAbs : Int) ≤ c * M.getD y 0) → ((sumTo L k).natAbs : Int) ≤ c * sumTo M k := by
  intro k
  induction k with
  | zero => intro _; simp [sumTo]
  | succ k ih =>
    intro h
    have h1 := ih (fun y hy => h y (by omega))
    have h2 := h k (by omega)
    rw [sumTo, sumTo, Int.mul_add]
    omega
theorem capX_bd {ps ws own C : List Int} (g : Good ps ws) (ho : ∀ y, y < ps.length → ((own.getD y 0).natAbs : Int) ≤ (999 : Nat) * (sumsT ps ws).getD y 0) {x : Nat} (hx : x < ps.length)
    (h : ∀ y, y < ps.length → ((C.getD y 0).natAbs : Int) ≤ (999 : Nat) * (sumsT ps ws).getD y 0) : ((capX ps own C x).natAbs : Int) ≤ (999 : Nat) * (sumsT ps ws).getD x 0 := by
  have h1 := ho x hx
  unfold capX
  split
  · exact h1
  · have h2 := sumTo_scale (L := kidL ps C x) (M := kidL ps (sumsT ps ws) x) (c := 999) ps.length (fun y hy => by
      rw [kidL_at hy, kidL_at hy]
      split
      · exact h y hy
      · simp)
    have h3 := sums_kids g hx
    have h4 := g.w_bd hx
    unfold kidT
    omega
theorem capN_bd {ps ws own : List Int} (g : Good ps ws) (ho : ∀ y, y < ps.length → ((own.getD y 0).natAbs : Int) ≤ (999 : Nat) * (sumsT ps ws).getD y 0) : ∀ k x, x < ps.length → ((capN ps own k).getD x 0).natAbs ≤ (999 : Nat) * (sumsT ps ws).getD x 0
  | 0 => ho
  | k + 1 => fun x hx => by
    show (((capS ps own (capN ps own k)).getD x 0).natAbs : Int) ≤ _
    rw [capS_at hx]
    exact capX_bd g ho hx (capN_bd g ho k)
theorem own_bd {ps ws zs : List Int} (p : Proc ps ws zs) : ∀ y, y < ps.length → (((ownT (sumsT ps ws) zs ps.length).getD y 0).natAbs : Int) ≤ (999 : Nat) * (sumsT ps ws).getD y 0 := by
  intro y hy
  rw [ownT_at hy]
  have h1 := sumsT_bd p.good y hy
  have h2 := p.bd y (by have := p.len; omega)
  rw [Int.natAbs_mul]
  have h3 : ((sumsT ps ws).getD y 0).natAbs * (zs.getD y 0).natAbs ≤ ((sumsT ps ws).getD y 0).natAbs * 999 := Nat.mul_le_mul_left _ (by omega)
  have h0 := sums_nonneg p.good y
  have h4 : (((sumsT ps ws).getD y 0).natAbs : Int) = (sumsT ps ws).getD y 0 := by omega
  have h5 : ((((sumsT ps ws).getD y 0).natAbs * 999 : Nat) : Int) = 999 * (sumsT ps ws).getD y 0 := by rw [Int.natCast_mul, h4]; omega
  omega
theorem cap_small {ps ws zs : List Int} (p : Proc ps ws zs) (k : Nat) {x : Nat} (hx : x < ps.length) : -479520 ≤ (capN ps (ownT (sumsT ps ws) zs ps.length) k).getD x 0 ∧ (capN ps (ownT (sumsT ps ws) zs ps.length) k).getD x 0 ≤ 479520 := by
  have h1 := capN_bd p.good (own_bd p) k x hx
  have h2 := sumsT_bd p.good x hx
  omega
theorem own_small {ps ws zs : List Int} (p : Proc ps ws zs) {x : Nat} (hx : x < ps.length) : -479520 ≤ (sumsT ps ws).getD x 0 * zs.getD x 0 ∧ (sumsT ps ws).getD x 0 * zs.getD x 0 ≤ 479520 := by
  have := cap_small p 0 hx
  rwa [show capN ps (ownT (sumsT ps ws) zs ps.length) 0 = ownT (sumsT ps ws) zs ps.length from rfl, ownT_at hx] at this
theorem kid_small {ps ws zs : List Int} (p : Proc ps ws zs) (k : Nat) (x : Nat) {m : Nat} (hm : m ≤ ps.length) : -11508480 ≤ sumTo (kidL ps (capN ps (ownT (sumsT ps ws) zs ps.length) k) x) m ∧ sumTo (kidL ps (capN ps (ownT (sumsT ps ws) zs ps.length) k) x) m ≤ 11508480 := by
  have h := kid_bd (V := capN ps (ownT (sumsT ps ws) zs ps.length) k) (B := 479520) (fun y hy => by have := cap_small p k hy; omega) x hm
  have h24 := p.good.n24
  have : m * 479520 ≤ 24 * 479520 := Nat.mul_le_mul_right _ (by omega)
  omega
end Go.Proofs.Ytagljebfbacdhaa
namespace Go.Proofs.Ytagljebfbacdhaa
open Go.RowKit
set_option linter.unusedVariables false
theorem kidsF_goodK {ps ws : List Int} (g : Good ps ws) (x : Nat) : kidsF ps x ps.length = kidsT ps x := by
  rw [kidsT_eq]
  unfold kidsF
  refine nodesW_congr fun y hy => ?_
  rw [Bool.eq_iff_iff, Bool.and_eq_true, decide_eq_true_eq, beq_iff_eq]
  constructor
  · exact fun h => h.2
  · intro h
    have := g.kid_gt hy h
    exact ⟨by omega, h⟩
set_option maxRecDepth 100000 in
set_option maxHeartbeats 4000000 in
theorem kids4S (ps ws L : List Int) (v u : Value) (x : Nat) (w : World) (gd : Good ps ws) (hx : x < ps.length) (hL : L.length = ps.length) (hb : ∀ y, y < ps.length → (L.getD y 0).natAbs ≤ 1000000000) (h : TreeV w w.heap.size v ps ws) (hu : IntsV w w.heap.size u L) :
    Calls Try.prog 65 #[v, u, .int .i64 x] w (Gives (.int .i64 (kidT ps L x)) w) := by
  have hn24 := gd.n24
  have KI := Lib.hid (fun w' (hb : Below w.heap.size w w') => kidsS ps ws v x w' (by omega) (by omega) (h.boxed hb))
  rw [kidsF_goodK gd] at KI
  have KN : Hid (∀ z ∈ kidsT ps (x : Int), ∃ y : Nat, z = (y : Int) ∧ y < ps.length) := Lib.hid (fun z hz => by
    rw [kidsT_eq] at hz
    obtain ⟨y, h1, h2, _⟩ := nodesW_mem hz
    exact ⟨y, h1, h2⟩)
  have KL : (kidsT ps (x : Int)).length ≤ 24 := by rw [kidsT_eq]; exact Nat.le_trans (nodesW_len _ _) hn24
  have KBD : Hid (∀ k, k ≤ (kidsT ps (x : Int)).length → (kidF (fun y => L.getD y 0) ((kidsT ps (x : Int)).take k)).natAbs ≤ 24000000000) := Lib.hid (fun k hk => by
    have h1 := kidF_bd (f := fun y => L.getD y 0) (L := kidsT ps (x : Int)) (B := 1000000000) (fun z hz => by
      obtain ⟨y, rfl, hy⟩ := KN.out z hz
      rw [Int.toNat_natCast]
      exact hb y hy) k hk
    have h2 : k * 1000000000 ≤ 24 * 1000000000 := Nat.mul_le_mul_right _ (by omega)
    omega)
  have KTK := Lib.hid (fun k (hk : k < (kidsT ps (x : Int)).length) => kidF_take (fun y => L.getD y 0) hk)
  have KALL : Hid (∀ k, (kidsT ps (x : Int)).length ≤ k → kidF (fun y => L.getD y 0) ((kidsT ps (x : Int)).take k) = kidT ps L x) := Lib.hid (fun k hk => by rw [kidF_all _ hk, kid_model])
  have KZ : Hid (kidF (fun y => L.getD y 0) ((kidsT ps (x : Int)).take 0) = 0) := Lib.hid rfl
  have FB := Lib.hid hb
  obtain ⟨p1, c1, p2, c2, rfl⟩ := h.shape
  obtain ⟨q, d, rfl, _, _, _, j1⟩ := hu
  have Q1 := Lib.hid j1
  clear h j1 gd hb
  have B1 := (Below.refl w.heap.size w).alloc (Nat.le_refl _) (.cells #[.slice p1 ps.length c1, .slice p2 ws.length c2] 28)
  have T1 := Lib.hid (show TBox (w.alloc (.cells #[.slice p1 ps.length c1, .slice p2 ws.length c2] 28)) w.heap.size (.slice p1 ps.length c1) (.slice p2 ws.length c2) from alloc_heap w _)
  obtain ⟨x0, x1⟩ := T1.out.cells
  obtain ⟨wa, hwa⟩ : ∃ wa, wa = w.alloc (.cells #[.slice p1 ps.length c1, .slice p2 ws.length c2] 28) := ⟨_, rfl⟩
  rw [← hwa] at B1 T1
  have HBA := Lib.hid B1
  clear B1
  obtain ⟨R, hR⟩ : ∃ R, R = kidT ps L x := ⟨_, rfl⟩
  obtain ⟨K, hK⟩ : ∃ K, K = kidsT ps (x : Int) := ⟨_, rfl⟩
  rw [← hR] at KALL ⊢
  rw [← hK] at KI KN KL KBD KTK KALL KZ
  have LN := Lib.hid hL
  clear hR hK hL
  go_enter Try.func65, Try.ntmps65
  go_wp2_with fail
  rw [← hwa]
  clear hwa x0 x1
  refine (KI.out _ HBA.out).mono ?_
  rintro e w3 ⟨uk, rfl, o3, b3⟩
  have HB3 := Lib.hid (HBA.out.trans (b3.mono HBA.out.size))
  obtain ⟨pk, ck, rfl, _, _, _, ik⟩ := o3.intsV
  have IK := Lib.hid ik
  have KNI : Hid (∀ i, i < K.length → ∃ y : Nat, K.getD i 0 = (y : Int) ∧ y < ps.length) := Lib.hid (fun i hi => KN.out _ (by
    rw [List.getD_eq_getElem?_getD, List.getElem?_eq_getElem hi]
    exact List.getElem_mem _))
  obtain ⟨f, hf⟩ : ∃ f : Nat → Int, f = fun y => L.getD y 0 := ⟨_, rfl⟩
  have FD : Hid (∀ y, f y = L.getD y 0) := Lib.hid (fun y => by rw [hf])
  rw [← hf] at KBD KTK KALL KZ
  clear hf b3 o3 ik KN KI HBA T1
  go_wp2
  go_loopg [7, 9] K.length (fun gg m i wr => ∃ k : Nat, k ≤ K.length ∧ K.length - k ≤ gg ∧ i = .int .i64 k ∧ m = .int .i64 (kidF f (K.take k)) ∧ ∃ nn, wr = w3.drewN nn)
  case atStart => exact ⟨0, Nat.zero_le _, by omega, rfl, by rw [KZ.out], 0, rfl⟩
  case round =>
    obtain ⟨k, hk, hgg, rfl, rfl, nn, rfl⟩ := hrel
    have kb := KBD.out k hk
    by_cases hlt : k < K.length
    · obtain ⟨y, hy, hyn⟩ := KNI.out k hlt
      obtain ⟨bk, ok, hqk, hbk, h1⟩ := IK.out.get hlt
      subst hqk
      obtain ⟨bz, oz, hqz, hbz, h3⟩ := Q1.out.get (i := y) (by have := LN.out; omega)
      subst hqz
      have h3' : w3.cell? ⟨bz, oz + y, none⟩ = some (.int .i64 (L.getD y 0)) := by rw [HB3.out.cell (p := ⟨bz, oz + y, none⟩) hbz]; exact h3
      have fb := FB.out y hyn
      have TK := KTK.out k hlt
      rw [hy, Int.toNat_natCast] at TK
      try rw [FD.out] at TK
      rw [hy] at h1
      have kb2 := KBD.out (k + 1) (by omega)
      obtain ⟨m, hm⟩ : ∃ m, m = kidF f (K.take k) := ⟨_, rfl⟩
      obtain ⟨zy, hzy⟩ : ∃ m, m = L.getD y 0 := ⟨_, rfl⟩
      rw [← hm] at kb TK ⊢
      rw [← hzy] at h3' fb TK
      have TK2 := Lib.hid TK
      have i0 : (0 : Int) ≤ (k : Int) := by omega
      have i1 : (k : Int) < (K.length : Int) := by omega
      have i2 : (0 : Int) ≤ (y : Int) := by omega
      have i3 : (y : Int) < (L.length : Int) := by have := LN.out; omega
      have pb : -1000000000 ≤ zy ∧ zy ≤ 1000000000 := by omega
      have mb : -24000000000 ≤ m ∧ m ≤ 24000000000 := by omega
      clear hy hm hzy fb TK kb kb2 h3
      go_wp2_with fail
      go_roundg (K.length - (k + 1))
      case rel => exact ⟨k + 1, by omega, by omega, by go_num, by rw [TK2.out], _, rfl⟩
      case measure => omega
    · have KE := Lib.hid (KALL.out k (by omega))
      go_wp2_with fail
      go_ret
      rw [KE.out]
      exact ⟨rfl, below_drewN HB3.out nn⟩
end Go.Proofs.Ytagljebfbacdhaa
namespace Go.Proofs.Ytagljebfbacdhaa
open Go.RowKit
set_option linter.unusedVariables false
theorem newInts_emptyG {w w1 : World} (hb : Below w.heap.size w w1) {g : Nat} (hg : g = w1.heap.size) : NewIntsB [] false w (.returned (.tuple #[.slice (some ⟨g, 0, none⟩) 0 0, .bool false])) (w1.alloc (.cells #[] 3)) := by
  subst hg; exact newInts_empty hb
/-- A box of a game. -/
def GBox (w : World) (B : Nat) (a b c d : Value) : Prop := w.heap[B]? = some (.cells #[a, b, c, d] 60 (0, 0))
theorem GBox.below {w w1 : World} {R C : Nat} {a b c d : Value} (h : GBox w R a b c d) (hb : Below C w w1) (hR : R < C) : GBox w1 R a b c d := (hb.block R hR).trans h
theorem GBox.lt {w : World} {R : Nat} {a b c d : Value} (h : GBox w R a b c d) : R < w.heap.size := by unfold GBox at h; exact (Array.getElem?_eq_some_iff.1 h).1
theorem GBox.cells {w : World} {R : Nat} {a b c d : Value} (h : GBox w R a b c d) : w.cell? ⟨R, 0, none⟩ = some a ∧ w.cell? ⟨R, 1, none⟩ = some b ∧ w.cell? ⟨R, 2, none⟩ = some c ∧ w.cell? ⟨R, 3, none⟩ = some d :=
  ⟨(cell_of_heap (o := 0) h rfl).1, (cell_of_heap (o := 1) h rfl).1, (cell_of_heap (o := 2) h rfl).1, (cell_of_heap (o := 3) h rfl).1⟩
theorem GBox.thaw {w : World} {R : Nat} {a b c d : Value} (h : GBox w R a b c d) : w.frozen? ⟨R, 0, none⟩ = false ∧ w.frozen? ⟨R, 1, none⟩ = false ∧ w.frozen? ⟨R, 2, none⟩ = false ∧ w.frozen? ⟨R, 3, none⟩ = false :=
  ⟨(cell_of_heap (o := 0) h rfl).2, (cell_of_heap (o := 1) h rfl).2, (cell_of_heap (o := 2) h rfl).2, (cell_of_heap (o := 3) h rfl).2⟩
/-- A value that is the game of a tree and payments. -/
def Game (w : World) (B : Nat) (g : Value) (ps ws zs : List Int) : Prop := ∃ v1 v2 us u, g = .agg #[v1, v2, us, u] ∧ TreeV w B (.agg #[v1, v2]) ps ws ∧ IntsV w B us (sumsT ps ws) ∧ IntsV w B u zs
theorem Game.boxed {w : World} {g : Value} {ps ws zs : List Int} (h : Game w w.heap.size g ps ws zs) {w1 : World} (hb : Below w.heap.size w w1) : Game w1 w1.heap.size g ps ws zs := by
  obtain ⟨v1, v2, us, u, e, h1, h2, h3⟩ := h
  exact ⟨v1, v2, us, u, e, h1.boxed hb, (h2.below hb).more hb.size, (h3.below hb).more hb.size⟩
theorem alt_setCell (w : World) (b o : Nat) (v : Value) : Alt b (b + 1) w (w.setCell ⟨b, o, none⟩ v) :=
  ⟨rfl, rfl, rfl, by simp [World.setCell], fun i _ hi => Below.heap_setCell _ _ _ _ (by simp; omega)⟩
def noGame : Value := .agg #[.slice none 0 0, .slice none 0 0, .slice none 0 0, .slice none 0 0]
/-- What gameOf answers. -/
def GameRes (ps ws zs : List Int) (w : World) (e : Ending) (w' : World) : Prop :=
  Below w.heap.size w w' ∧ ((procB ps ws zs = false ∧ e = .returned (.tuple #[noGame, .bool false])) ∨ (procB ps ws zs = true ∧ ∃ g, e = .returned (.tuple #[g, .bool true]) ∧ Game w' w'.heap.size g ps ws zs))
set_option maxRecDepth 100000 in
set_option maxHeartbeats 4000000 in
theorem gameI (ps ws zs : List Int) (v u : Value) (w : World) (hn1 : zs.length ≤ 1048576) (h : TreeV w w.heap.size v ps ws) (hu : IntsV w w.heap.size u zs) :
    Calls Try.prog 61 #[v, u] w (GameRes ps ws zs w) := by
  have PC := Lib.hid (fun w' (hb : Below w.heap.size w w') => procI ps ws zs v u w' hn1 (h.boxed hb) ((hu.below hb).more hb.size))
  have SU := Lib.hid (fun w' (hb : Below w.heap.size w w') => sumsI ps ws v w' (h.boxed hb))
  have TV := Lib.hid (fun w' (hb : Below w.heap.size w w') => h.boxed hb)
  have UV := Lib.hid (fun w' (hb : Below w.heap.size w w') => (hu.below hb).more hb.size)
  obtain ⟨p1, c1, p2, c2, rfl⟩ := h.shape
  obtain ⟨q, d, rfl, _⟩ := hu
  clear h
  have B1 := ((Below.refl w.heap.size w).alloc (Nat.le_refl _) (.cells #[.slice p1 ps.length c1, .slice p2 ws.length c2] 28)).alloc (by simp) (.cells #[.slice none 0 0, .slice none 0 0, .slice none 0 0, .slice none 0 0] 60)
  have K0 := alloc_two w (.cells #[.slice p1 ps.length c1, .slice p2 ws.length c2] 28) (.cells #[.slice none 0 0, .slice none 0 0, .slice none 0 0, .slice none 0 0] 60)
  obtain ⟨wa, hwa⟩ : ∃ wa, wa = (w.alloc (.cells #[.slice p1 ps.length c1, .slice p2 ws.length c2] 28)).alloc (.cells #[.slice none 0 0, .slice none 0 0, .slice none 0 0, .slice none 0 0] 60) := ⟨_, rfl⟩
  rw [← hwa] at B1 K0
  have T1 := Lib.hid (show TBox wa w.heap.size (.slice p1 ps.length c1) (.slice p2 ws.length c2) from K0.1)
  have R1 := Lib.hid (show GBox wa (w.heap.size + 1) (.slice none 0 0) (.slice none 0 0) (.slice none 0 0) (.slice none 0 0) from K0.2)
  have HBA := Lib.hid B1
  clear K0 B1
  obtain ⟨x0, x1⟩ := T1.out.cells
  cases hp : procB ps ws zs
  · rw [hp] at PC
    have HP := Lib.hid hp
    clear hp SU TV UV
    go_enter Try.func61, Try.ntmps61
    go_wp2_with fail
    rw [← hwa]
    clear hwa
    refine (PC.out _ HBA.out).mono ?_
    rintro e w1 ⟨rfl, b1⟩
    have HB1 := Lib.hid (HBA.out.trans (b1.mono HBA.out.size))
    have HR := R1.out.below b1 R1.out.lt
    obtain ⟨k0, k1, k2, k3⟩ := HR.cells
    obtain ⟨f0, f1, f2, f3⟩ := HR.thaw
    clear b1 HR
    go_wp2_with fail
    refine bodyPost_ret (v := .tuple #[noGame, .bool false]) (by simp [results, Try.results61, go_sem, k0, k1, k2, k3, noGame]) rfl ⟨?_, .inl ⟨HP.out, rfl⟩⟩
    exact (((HB1.out.setCell (p := ⟨w.heap.size + 1, 0, none⟩) (by simp) _).setCell (p := ⟨w.heap.size + 1, 1, none⟩) (by simp) _).setCell (p := ⟨w.heap.size + 1, 2, none⟩) (by simp) _).setCell (p := ⟨w.heap.size + 1, 3, none⟩) (by simp) _
  · have PR := procB_iff.1 hp
    have gd := PR.good
    have hg : goodT ps ws = true := (goodT_iff _ _).2 gd
    rw [hg, show ifGood ps ws (sumsT ps ws) = sumsT ps ws by unfold ifGood; rw [hg]; rfl] at SU
    have HP := Lib.hid hp
    rw [hp] at PC
    clear hp PR gd hg
    go_enter Try.func61, Try.ntmps61
    go_wp2_with fail
    rw [← hwa]
    clear hwa
    refine (PC.out _ HBA.out).mono ?_
    rintro e w1 ⟨rfl, b1⟩
    have HB1 := Lib.hid (HBA.out.trans (b1.mono HBA.out.size))
    have HT1 := Lib.hid (T1.out.below b1 T1.out.lt)
    have HR1 := Lib.hid (R1.out.below b1 R1.out.lt)
    clear b1 x0 x1
    obtain ⟨x0, x1⟩ := HT1.out.cells
    go_wp2_with fail
    refine (SU.out _ HB1.out).mono ?_
    rintro e w2 ⟨us, rfl, o2, b2⟩
    have HB2 := Lib.hid (HB1.out.trans (b2.mono HB1.out.size))
    have HT2 := Lib.hid (HT1.out.below b2 HT1.out.lt)
    have HR2 := HR1.out.below b2 HR1.out.lt
    clear x0 x1
    obtain ⟨x0, x1⟩ := HT2.out.cells
    obtain ⟨k0, k1, k2, k3⟩ := HR2.cells
    obtain ⟨f0, f1, f2, f3⟩ := HR2.thaw
    have HO2 := Lib.hid o2
    have L1 := Lib.hid (show w.heap.size + 1 + 1 ≤ w1.heap.size from HR1.out.lt)
    obtain ⟨qs, ds, rfl, _⟩ := o2.intsV
    have FIN : Hid (∀ w3, Below w.heap.size w w3 → Alt (w.heap.size + 1) (w.heap.size + 1 + 1) w2 w3 → Game w3 w3.heap.size (.agg #[.slice p1 ps.length c1, .slice p2 ws.length c2, .slice qs (sumsT ps ws).length ds, .slice q zs.length d]) ps ws zs) := Lib.hid (fun w3 hb ha => ⟨_, _, _, _, rfl, TV.out w3 hb, (HO2.out.alt ha (.inr L1.out)).intsV.more ha.size, UV.out w3 hb⟩)
    obtain ⟨sn, hsn⟩ : ∃ sn, sn = (sumsT ps ws).length := ⟨_, rfl⟩
    rw [← hsn] at FIN ⊢
    clear o2 hsn HR2 b2 HO2
    go_wp2_with fail
    refine bodyPost_ret (v := .tuple #[.agg #[.slice p1 ps.length c1, .slice p2 ws.length c2, .slice qs sn ds, .slice q zs.length d], .bool true]) (by simp [results, Try.results61, go_sem, *]) rfl ?_
    have A4 := (((alt_setCell w2 (w.heap.size + 1) 0 (.slice p1 ps.length c1)).trans (alt_setCell _ (w.heap.size + 1) 1 (.slice p2 ws.length c2))).trans (alt_setCell _ (w.heap.size + 1) 2 (.slice qs sn ds))).trans (alt_setCell _ (w.heap.size + 1) 3 (.slice q zs.length d))
    have B4 := (((HB2.out.setCell (p := ⟨w.heap.size + 1, 0, none⟩) (by simp) (.slice p1 ps.length c1)).setCell (p := ⟨w.heap.size + 1, 1, none⟩) (by simp) (.slice p2 ws.length c2)).setCell (p := ⟨w.heap.size + 1, 2, none⟩) (by simp) (.slice qs sn ds)).setCell (p := ⟨w.heap.size + 1, 3, none⟩) (by simp) (.slice q zs.length d)
    exact ⟨B4, .inr ⟨HP.out, _, rfl, FIN.out _ B4 A4⟩⟩
set_option maxRecDepth 100000 in
set_option maxHeartbeats 2000000 in
theorem paidI (ps ws zs : List Int) (g : Value) (x : Nat) (w : World) (pr : Proc ps ws zs) (hx : x < ps.length) (h : Game w w.heap.size g ps ws zs) :
    Calls Try.prog 73 #[g, .int .i64 x] w (Gives (.int .i64 ((sumsT ps ws).getD x 0 * zs.getD x 0)) w) := by
  have os := own_small pr hx
  have sl := sumsT_len pr.good.nw
  have zl := pr.len
  have hn24 := pr.good.n24
  obtain ⟨v1, v2, us, u, rfl, h1, h2, h3⟩ := h
  obtain ⟨p1, c1, p2, c2, hs⟩ := h1.shape
  injection hs with hs
  injection hs with hs
  injection hs with hs1 hs
  injection hs with hs2 hs
  subst hs1; subst hs2
  clear hs
  obtain ⟨p3, c3, rfl, _, _, _, j3⟩ := h2
  obtain ⟨p4, c4, rfl, _, _, _, j4⟩ := h3
  obtain ⟨b3, o3, hq3, hb3, hc3⟩ := j3.get (i := x) (by omega)
  obtain ⟨b4, o4, hq4, hb4, hc4⟩ := j4.get (i := x) (by omega)
  subst hq3; subst hq4
  have B1 := (Below.refl w.heap.size w).alloc (Nat.le_refl _) (.cells #[.slice p1 ps.length c1, .slice p2 ws.length c2, .slice (some ⟨b3, o3, none⟩) (sumsT ps ws).length c3, .slice (some ⟨b4, o4, none⟩) zs.length c4] 60)
  have R1 := show GBox (w.alloc (.cells #[.slice p1 ps.length c1, .slice p2 ws.length c2, .slice (some ⟨b3, o3, none⟩) (sumsT ps ws).length c3, .slice (some ⟨b4, o4, none⟩) zs.length c4] 60)) w.heap.size _ _ _ _ from alloc_heap w _
  have i0 : (0 : Int) ≤ (x : Int) := by omega
  have i1 : (x : Int) < ((sumsT ps ws).length : Int) := by omega
  have i2 : (x : Int) < (zs.length : Int) := by omega
  obtain ⟨c0, c1', c2', c3'⟩ := R1.cells
  have hk3 := (B1.cell (p := ⟨b3, o3 + x, none⟩) hb3).trans hc3
  have hk4 := (B1.cell (p := ⟨b4, o4 + x, none⟩) hb4).trans hc4
  obtain ⟨a, ha⟩ : ∃ a, a = (sumsT ps ws).getD x 0 := ⟨_, rfl⟩
  obtain ⟨c, hcc⟩ : ∃ c, c = zs.getD x 0 := ⟨_, rfl⟩
  obtain ⟨sn, hsn⟩ : ∃ sn, sn = (sumsT ps ws).length := ⟨_, rfl⟩
  rw [← ha] at hk3 os ⊢
  rw [← hcc] at hk4 os ⊢
  rw [← hsn] at i1 hk3 hk4 c0 c1' c2' c3' B1 R1 ⊢
  obtain ⟨wa, hwa⟩ : ∃ wa, wa = w.alloc (.cells #[.slice p1 ps.length c1, .slice p2 ws.length c2, .slice (some ⟨b3, o3, none⟩) sn c3, .slice (some ⟨b4, o4, none⟩) zs.length c4] 60) := ⟨_, rfl⟩
  rw [← hwa] at B1 R1 hk3 hk4 c0 c1' c2' c3'
  have HB := Lib.hid B1
  have WR : IntKind.i64.wrap (a * c) = a * c := IntWalk.i64_in _ (by omega)
  clear j3 j4 hc3 hc4 h1 ha hcc hsn R1 B1 pr sl zl
  go_enter Try.func73, Try.ntmps73
  go_upto_region 1 with fail
  rw [← hwa]
  clear hwa
  go_region
  go_wp2_with fail
  go_ret
  exact ⟨rfl, by first | exact below_drew HB.out | exact below_drewN HB.out _⟩
end Go.Proofs.Ytagljebfbacdhaa
namespace Go.Proofs.Ytagljebfbacdhaa
open Go.RowKit
set_option linter.unusedVariables false
set_option maxRecDepth 100000 in
set_option maxHeartbeats 4000000 in
theorem goingI (ps ws zs C : List Int) (B : Nat) (g u : Value) (w : World) (pr : Proc ps ws zs) (hC : C.length = ps.length) (hb : ∀ y, y < ps.length → (C.getD y 0).natAbs ≤ 1000000000) (h : Game w w.heap.size g ps ws zs) (hu : IntsV w w.heap.size u C) :
    Calls Try.prog 68 #[g, u] w (NewInts (gonL ps C ps.length) w) := by
  have gd := pr.good
  have GP := Lib.hid gd.par
  have hn := gd.n24
  have hn0 := gd.n1
  have ONE := Lib.hid (gonL_one (V := C) gd.root gd.n1)
  have SET := Lib.hid (fun (k j : Nat) hk hj hjn => gonL_set (ps := ps) (V := C) (k := k) (j := j) hk hj hjn)
  have GL := Lib.hid (fun k => gonL_len ps C k)
  have GB := Lib.hid (fun (k j : Nat) (hk : k ≤ ps.length) (hj : j < ps.length) => show ((gonL ps C k).getD j 0).natAbs ≤ 24000000000 from by
    rw [gonL_at hj]
    have h1 := kid_bd hb j hk
    have h2 : k * 1000000000 ≤ 24 * 1000000000 := Nat.mul_le_mul_right _ (by omega)
    omega)
  have CB := Lib.hid hb
  obtain ⟨v1, v2, us, uz, rfl, h1, h2, h3⟩ := h
  obtain ⟨v1', v2', hs, ⟨p1, c1, rfl, _, _, _, i1⟩, ⟨p2, c2, rfl, _⟩⟩ := h1
  injection hs with hs
  injection hs with hs
  injection hs with hs1 hs
  injection hs with hs2 hs
  subst hs1; subst hs2
  clear hs
  obtain ⟨p3, c3, rfl, _⟩ := h2
  obtain ⟨p4, c4, rfl, _⟩ := h3
  obtain ⟨q1, d1, rfl, _, _, _, j1⟩ := hu
  have P1 := Lib.hid i1
  have Q1 := Lib.hid j1
  obtain ⟨sn, hsn⟩ : ∃ sn, sn = (sumsT ps ws).length := ⟨_, rfl⟩
  rw [← hsn]
  have B1 := (Below.refl w.heap.size w).alloc (Nat.le_refl _) (.cells #[.slice p1 ps.length c1, .slice p2 ws.length c2, .slice p3 sn c3, .slice p4 zs.length c4] 60)
  have R1 := show GBox (w.alloc (.cells #[.slice p1 ps.length c1, .slice p2 ws.length c2, .slice p3 sn c3, .slice p4 zs.length c4] 60)) w.heap.size _ _ _ _ from alloc_heap w _
  obtain ⟨wa, hwa⟩ : ∃ wa, wa = w.alloc (.cells #[.slice p1 ps.length c1, .slice p2 ws.length c2, .slice p3 sn c3, .slice p4 zs.length c4] 60) := ⟨_, rfl⟩
  have sz : wa.heap.size = w.heap.size + 1 := by rw [hwa]; simp
  rw [← hwa] at B1 R1
  have HB2 := Lib.hid B1
  have HT2 := Lib.hid R1
  have CLH := Lib.hid hC
  have SZ := Lib.hid sz
  clear i1 j1 B1 R1 hsn pr gd hb hC sz
  obtain ⟨i0, hi, hz0, hz1, hz2⟩ := info_parts intInfo
  have c1' : i0.bytes * C.length ≤ 281474976710656 := by rw [hz2]; have := CLH.out; omega
  have c2' : C.length ≤ maxLen := by unfold maxLen; have := CLH.out; omega
  have le1 : C.length ≤ ps.length := by have := CLH.out; omega
  have le2 : ps.length ≤ C.length := by have := CLH.out; omega
  go_enter Try.func68, Try.ntmps68
  go_wp2_with (at_make; refine wpList_make_full _ rfl _ _ 22 rfl (w.heap.size + 1) 3 i0 (.int .i64 0) 1 Try.underlying22 hi hz0 hz1 .i64 .i64 _ _ C.length rfl rfl rfl rfl c1' c2' (by simp) ?_; intro w3 hown hg2)
  rw [← hwa] at hg2
  have hown1 : w3.ownsRow (w.heap.size + 1) 3 1 (.slice (some ⟨w.heap.size + 1, 0, none⟩) C.length C.length) C.length (List.replicate C.length (.int .i64 0)) := by
    have h2 := hown
    rw [show (Value.int .i64 0).cells = #[Value.int .i64 0] from rfl, Nat.mul_one, toList_madeCells_one] at h2
    simpa using h2
  have O2 := Lib.hid (OwnV.made hown1)
  have ONE2 := ONE.out
  rw [← CLH.out] at ONE2
  rw [← ONE2] at O2
  have B2 := Lib.hid (HB2.out.grown hg2 HB2.out.size (fun q hq => by simp at hq))
  have BW := Lib.hid ((Below.refl wa.heap.size wa).grown hg2 (Nat.le_refl _) (fun q hq => by simp at hq))
  clear hown hown1 hg2 c1' c2' hi hz0 hz1 hz2 ONE2 ONE hwa
  go_wp2_with fail
  go_loopw [6] (fun i wr => ∃ k : Nat, 1 ≤ k ∧ k ≤ ps.length ∧ i = .int .i64 k ∧ Hid (OwnV wr (w.heap.size + 1) wr.heap.size (.slice (some ⟨w.heap.size + 1, 0, none⟩) C.length C.length) (gonL ps C k)) ∧ Hid (Below wa.heap.size wa wr)) (fun i _ => ps.length - (intOf i).toNat)
  case atStart => exact ⟨1, Nat.le_refl _, hn0, rfl, O2, BW⟩
  case round =>
    obtain ⟨k, hk1, hk, rfl, HO, HB⟩ := hrel
    have HBX := Lib.hid (HB2.out.trans (HB.out.mono HB2.out.size))
    have HTX := Lib.hid (HT2.out.below HB.out HT2.out.lt)
    clear O2 B2 BW
    by_cases hlt : k < ps.length
    · obtain ⟨b, off, hq, hb, hc⟩ := P1.out.get hlt
      subst hq
      obtain ⟨bz, oz, hqz, hbz, hcz⟩ := Q1.out.get (i := k) (by omega)
      subst hqz
      obtain ⟨g1, g2⟩ := GP.out k (by omega) hlt
      obtain ⟨j, hj⟩ : ∃ j : Nat, ps.getD k 0 = (j : Int) := ⟨(ps.getD k 0).toNat, by omega⟩
      have hjk : j < k := by omega
      have hcw : wr.cell? ⟨b, off + k, none⟩ = some (.int .i64 j) := by rw [HBX.out.cell (p := ⟨b, off + k, none⟩) hb, hc, hj]
      have hcy : wr.cell? ⟨bz, oz + k, none⟩ = some (.int .i64 (C.getD k 0)) := by rw [HBX.out.cell (p := ⟨bz, oz + k, none⟩) hbz, hcz]
      have hdj := HO.out.cellGet (j := j) (by rw [GL.out]; omega)
      have hfz : wr.frozen? ⟨w.heap.size + 1, j, none⟩ = false := HO.out.frozenGet j
      have se := SET.out k j hlt hj (by omega)
      have gb := GB.out k j hk (by omega)
      have cb := CB.out k hlt
      obtain ⟨a, ha⟩ : ∃ t, t = (gonL ps C k).getD j 0 := ⟨_, rfl⟩
      obtain ⟨c, hcc⟩ : ∃ t, t = C.getD k 0 := ⟨_, rfl⟩
      rw [← ha] at hdj se gb
      rw [← hcc] at hcy se cb
      have O3 := Lib.hid (HO.out.setAt j (x := a + c) (by unfold InI64; omega))
      rw [se] at O3
      have B3 := Lib.hid (HB.out.setCell (p := ⟨w.heap.size + 1, j, none⟩) (by simp; have := SZ.out; omega) (.int .i64 (a + c)))
      obtain ⟨x0, x1, x2, x3⟩ := HTX.out.cells
      have i0' : (0 : Int) ≤ (k : Int) := by omega
      have i1' : (k : Int) < (ps.length : Int) := by omega
      have i2' : (k : Int) < (C.length : Int) := by omega
      have j0 : (0 : Int) ≤ (j : Int) := by omega
      have j1 : (j : Int) < (C.length : Int) := by omega
      have ab : -24000000000 ≤ a ∧ a ≤ 24000000000 := by omega
      have cb2 : -1000000000 ≤ c ∧ c ≤ 1000000000 := by omega
      clear HO HB HBX HTX se gb cb hc hcz hj ha hcc g1 g2
      go_wp2_with fail
      go_region
      go_wp2_with fail
      go_roundw
      case rel => exact ⟨k + 1, by omega, by omega, by go_num, Lib.hid (by have h := O3.out.below (below_drew (Below.refl _ _)); simpa [World.setCell] using h), Lib.hid (below_drew B3.out)⟩
      case measure => simp [intOf]; omega
    · obtain rfl : k = ps.length := by omega
      have FIN : Hid (NewInts (gonL ps C ps.length) w (.returned (.slice (some ⟨w.heap.size + 1, 0, none⟩) C.length C.length)) wr) := Lib.hid ⟨_, rfl, HO.out.low (by omega), HBX.out⟩
      go_wp2_with fail
      go_ret
      exact FIN.out
end Go.Proofs.Ytagljebfbacdhaa
namespace Go.Proofs.Ytagljebfbacdhaa
open Go.RowKit
set_option linter.unusedVariables false
theorem isEndC {ps ws : List Int} {v : Value} {x : Nat} {w : World} (gd : Good ps ws) (hx : x < ps.length) (h : TreeV w w.heap.size v ps ws) : Calls Try.prog 67 #[v, .int .i64 x] w (Gives (.bool (leafB ps x)) w) := by
  have := isEndI ps ws v x w (by rw [gd.nw]; exact hx) h
  rwa [show decide (0 < ws.getD x 0) = leafB ps x by rw [Bool.eq_iff_iff, decide_eq_true_iff]; exact gd.end_iff hx] at this
/-- A step that has gone through the nodes below a number. -/
def midL (A B : List Int) (n k : Nat) : List Int := (List.range n).map fun y => if y < k then B.getD y 0 else A.getD y 0
theorem midL_len (A B : List Int) (n k : Nat) : (midL A B n k).length = n := by simp [midL]
theorem midL_at {A B : List Int} {n k y : Nat} (hy : y < n) : (midL A B n k).getD y 0 = if y < k then B.getD y 0 else A.getD y 0 := by
  unfold midL
  rw [List.getD_eq_getElem?_getD, List.getElem?_map, List.getElem?_range hy]; rfl
theorem midL_zero {A B : List Int} {n : Nat} (h : A.length = n) : midL A B n 0 = A := list_eq (midL_len _ _ _ _) h (fun x hx => by rw [midL_at hx, if_neg (by omega)])
theorem midL_all {A B : List Int} {n : Nat} (h : B.length = n) : midL A B n n = B := list_eq (midL_len _ _ _ _) h (fun x hx => by rw [midL_at hx, if_pos hx])
theorem midL_set {A B : List Int} {n k : Nat} (hk : k < n) : (midL A B n k).set k (B.getD k 0) = midL A B n (k + 1) := by
  refine list_eq (n := n) (by rw [List.length_set, midL_len]) (midL_len _ _ _ _) (fun y hy => ?_)
  rw [midL_at hy]
  by_cases h : k = y
  · subst h
    rw [getD_set_same (by rw [midL_len]; exact hy), if_pos (by omega)]
  · rw [getD_set_other (by omega), midL_at hy]
    by_cases h2 : y < k
    · rw [if_pos h2, if_pos (by omega)]
    · rw [if_neg h2, if_neg (by omega)]
theorem midL_same {A B : List Int} {n k : Nat} (hk : k < n) (h : B.getD k 0 = A.getD k 0) : midL A B n (k + 1) = midL A B n k := by
  refine list_eq (n := n) (midL_len _ _ _ _) (midL_len _ _ _ _) (fun y hy => ?_)
  rw [midL_at hy, midL_at hy]
  by_cases h2 : y < k
  · rw [if_pos h2, if_pos (by omega)]
  · rw [if_neg h2]
    by_cases h3 : y = k
    · subst h3; rw [if_pos (by omega), h]
    · rw [if_neg (by omega)]
theorem midL_bd {A B : List Int} {n k : Nat} {c : Int} (ha : ∀ y, y < n → -c ≤ A.getD y 0 ∧ A.getD y 0 ≤ c) (hb : ∀ y, y < n → -c ≤ B.getD y 0 ∧ B.getD y 0 ≤ c) : ∀ y, y < n → -c ≤ (midL A B n k).getD y 0 ∧ (midL A B n k).getD y 0 ≤ c := fun y hy => by
  rw [midL_at hy]
  split
  · exact hb y hy
  · exact ha y hy
theorem max_cap (a b : Int) : (if a < b then b else a) = max a b := by omega
theorem capS_leaf {ps own C : List Int} {x : Nat} (hx : x < ps.length) (hl : leafB ps x = true) (ho : C.getD x 0 = own.getD x 0) : (capS ps own C).getD x 0 = C.getD x 0 := by
  rw [capS_at hx]; unfold capX; rw [if_pos hl, ho]
theorem capS_inner {ps own C : List Int} {x : Nat} (hx : x < ps.length) (hl : leafB ps x = false) : (capS ps own C).getD x 0 = max (own.getD x 0) (kidT ps C x) := by
  rw [capS_at hx]; unfold capX; rw [if_neg (by rw [hl]; decide)]
set_option maxRecDepth 100000 in
set_option maxHeartbeats 16000000 in
theorem capsI (ps ws zs : List Int) (m : Nat) (g : Value) (w : World) (hm : m ≤ 1000) (pr : Proc ps ws zs) (h : Game w w.heap.size g ps ws zs) :
    Calls Try.prog 86 #[g, .int .i64 m] w (NewInts (capN ps (ownT (sumsT ps ws) zs ps.length) m) w) := by
  have gd := pr.good
  have hn := gd.n24
  have hn0 := gd.n1
  have PD := Lib.hid (fun w' (x : Nat) (hx : x < ps.length) (hb : Below w.heap.size w w') => paidI ps ws zs g x w' pr hx (h.boxed hb))
  have GO := Lib.hid (fun w' (C : List Int) (u : Value) (hb : Below w.heap.size w w') (hC : C.length = ps.length) (hbd : ∀ y, y < ps.length → (C.getD y 0).natAbs ≤ 1000000000) (hu : IntsV w' w'.heap.size u C) => goingI ps ws zs C 0 g u w' pr hC hbd (h.boxed hb) hu)
  have OL := Lib.hid (ownT_len (sumsT ps ws) zs ps.length)
  have OA := Lib.hid (fun (x : Nat) (hx : x < ps.length) => ownT_at (su := sumsT ps ws) (zs := zs) hx)
  have OS := Lib.hid (fun (x : Nat) (hx : x < ps.length) => own_small pr hx)
  have CS := Lib.hid (fun (k x : Nat) (hx : x < ps.length) => cap_small pr k hx)
  have KS := Lib.hid (fun (k x : Nat) => kid_small pr k x (Nat.le_refl ps.length))
  have CL := Lib.hid (fun k => capN_len (ps := ps) (ownT_len (sumsT ps ws) zs ps.length) k)
  have CLF := Lib.hid (fun (k x : Nat) (hx : x < ps.length) (hl : leafB ps x = true) => capN_leaf (own := ownT (sumsT ps ws) zs ps.length) hx hl k)
  have SL := Lib.hid (sumsT_len gd.nw)
  have IE := Lib.hid (fun v (ht : TreeV w w.heap.size v ps ws) w' (x : Nat) (hx : x < ps.length) (hb : Below w.heap.size w w') => isEndC (v := v) gd hx (ht.boxed hb))
  obtain ⟨v1, v2, us, uz, rfl, h1, h2, h3⟩ := h
  have IE2 := Lib.hid (IE.out _ h1)
  obtain ⟨p1, c1, p2, c2, hs⟩ := h1.shape
  injection hs with hs
  injection hs with hs
  injection hs with hs1 hs
  injection hs with hs2 hs
  subst hs1; subst hs2
  clear hs
  obtain ⟨p3, c3, rfl, _⟩ := h2
  obtain ⟨p4, c4, rfl, _⟩ := h3
  obtain ⟨S, hS⟩ : ∃ S, S = sumsT ps ws := ⟨_, rfl⟩
  rw [← hS] at PD GO OL OA OS CS KS CL CLF SL ⊢
  obtain ⟨O, hO⟩ : ∃ O, O = ownT S zs ps.length := ⟨_, rfl⟩
  rw [← hO] at OL OA CS KS CL CLF ⊢
  clear hS hO IE h1 gd pr
  have sl1 : S.length ≤ ps.length := by have := SL.out; omega
  have sl2 : ps.length ≤ S.length := by have := SL.out; omega
  have SLE := SL.out
  obtain ⟨sn, hsn⟩ : ∃ sn, sn = S.length := ⟨_, rfl⟩
  have SNE : Hid (sn = ps.length) := Lib.hid (by rw [hsn, SLE])
  rw [← hsn] at sl1 sl2 PD GO ⊢
  clear hsn SLE
  have B1 := (Below.refl w.heap.size w).alloc (Nat.le_refl _) (.cells #[.slice p1 ps.length c1, .slice p2 ws.length c2, .slice p3 sn c3, .slice p4 zs.length c4] 60)
  have R1 := show GBox (w.alloc (.cells #[.slice p1 ps.length c1, .slice p2 ws.length c2, .slice p3 sn c3, .slice p4 zs.length c4] 60)) w.heap.size _ _ _ _ from alloc_heap w _
  obtain ⟨x0, x1, x2, x3⟩ := R1.cells
  obtain ⟨wa, hwa⟩ : ∃ wa, wa = w.alloc (.cells #[.slice p1 ps.length c1, .slice p2 ws.length c2, .slice p3 sn c3, .slice p4 zs.length c4] 60) := ⟨_, rfl⟩
  have sz : wa.heap.size = w.heap.size + 1 := by rw [hwa]; simp
  rw [← hwa] at B1 R1
  have HB2 := Lib.hid B1
  have HT2 := Lib.hid R1
  have SZ := Lib.hid sz
  clear B1 R1 sz
  obtain ⟨i0, hi, hz0, hz1, hz2⟩ := info_parts intInfo
  have c1' : i0.bytes * sn ≤ 281474976710656 := by rw [hz2]; omega
  have c2' : sn ≤ maxLen := by unfold maxLen; omega
  go_enter Try.func86, Try.ntmps86
  go_wp2_with (at_make; refine wpList_make_full _ rfl _ _ 22 rfl (w.heap.size + 1) 3 i0 (.int .i64 0) 1 Try.underlying22 hi hz0 hz1 .i64 .i64 _ _ sn rfl rfl rfl rfl c1' c2' (by simp) ?_; intro w3 hown hg2)
  rw [← hwa] at hg2
  have hown1 : w3.ownsRow (w.heap.size + 1) 3 1 (.slice (some ⟨w.heap.size + 1, 0, none⟩) sn sn) sn (List.replicate sn (.int .i64 0)) := by
    have h2 := hown
    rw [show (Value.int .i64 0).cells = #[Value.int .i64 0] from rfl, Nat.mul_one, toList_madeCells_one] at h2
    simpa using h2
  have O2 := OwnV.made hown1
  have Z0 : Hid (midL (List.replicate sn 0) O ps.length 0 = List.replicate sn 0) := Lib.hid (midL_zero (by rw [List.length_replicate, SNE.out]))
  rw [← Z0.out] at O2
  have HO2 := Lib.hid O2
  have BW := Lib.hid ((Below.refl wa.heap.size wa).grown hg2 (Nat.le_refl _) (fun q hq => by simp at hq))
  have ZB := Lib.hid (fun (y : Nat) (hy : y < ps.length) => show (List.replicate sn (0 : Int)).getD y 0 = 0 from by rw [List.getD_eq_getElem?_getD, List.getElem?_replicate]; split <;> rfl)
  clear hown hown1 hg2 c1' c2' hi hz0 hz1 hz2 hwa O2 x0 x1 x2 x3 Z0
  obtain ⟨Z, hZ⟩ : ∃ Z : List Int, Z = List.replicate sn 0 := ⟨_, rfl⟩
  rw [← hZ] at HO2 ZB
  clear hZ
  go_wp2_with fail
  go_loopw [15] (fun i wr => ∃ k : Nat, k ≤ ps.length ∧ i = .int .i64 k ∧ Hid (OwnV wr (w.heap.size + 1) wr.heap.size (.slice (some ⟨w.heap.size + 1, 0, none⟩) sn sn) (midL Z O ps.length k)) ∧ Hid (Below wa.heap.size wa wr)) (fun i _ => ps.length - (intOf i).toNat)
  case atStart => exact ⟨0, Nat.zero_le _, rfl, HO2, BW⟩
  case round =>
    obtain ⟨k, hk, rfl, HO, HB⟩ := hrel
    have HBX := Lib.hid (HB2.out.trans (HB.out.mono HB2.out.size))
    have HTX := Lib.hid (HT2.out.below HB.out HT2.out.lt)
    obtain ⟨x0, x1, x2, x3⟩ := HTX.out.cells
    clear HO2 BW
    by_cases hlt : k < ps.length
    · have C := Lib.hid (PD.out wr k hlt HBX.out)
      have os := OS.out k hlt
      have se := midL_set (A := Z) (B := O) hlt
      rw [OA.out k hlt] at se
      have SE := Lib.hid se
      have i0' : (0 : Int) ≤ (k : Int) := by omega
      have i1' : (k : Int) < (ps.length : Int) := by omega
      have i2' : (k : Int) < (sn : Int) := by omega
      obtain ⟨c, hcc⟩ : ∃ c, c = S.getD k 0 * zs.getD k 0 := ⟨_, rfl⟩
      rw [← hcc] at C os SE
      clear hcc se
      go_wp2_with fail
      refine C.out.mono ?_
      rintro e w4 ⟨rfl, b4⟩
      have HB4 := Lib.hid (HB.out.trans (b4.mono HB.out.size))
      have HO4 := Lib.hid ((HO.out.below b4).wide b4.size (Nat.le_refl _))
      clear b4
      have hold := HO4.out.cellGet (j := k) (by rw [midL_len]; exact hlt)
      have hfz := HO4.out.frozenGet k
      have O5 := Lib.hid (HO4.out.setAt k (x := c) (by unfold InI64; omega))
      rw [SE.out] at O5
      have B5 := Lib.hid (HB4.out.setCell (p := ⟨w.heap.size + 1, k, none⟩) (by simp; have := SZ.out; omega) (.int .i64 c))
      clear HO4 HB4 HO HB
      go_wp2_with fail
      go_roundw
      case rel => exact ⟨k + 1, by omega, by go_num, Lib.hid (by have h := O5.out; simpa [World.setCell] using h), B5⟩
      case measure => simp [intOf]; omega
    · have hkn : k = ps.length := by omega
      have HO0 : Hid (OwnV wr (w.heap.size + 1) wr.heap.size (.slice (some ⟨w.heap.size + 1, 0, none⟩) sn sn) (capN ps O 0)) := Lib.hid (by have h := HO.out; rw [hkn, midL_all OL.out] at h; exact h)
      have i2' : ¬ (k : Int) < (sn : Int) := by omega
      clear HO hkn
      go_wp2_with fail
      go_loopg [26] m (fun gg i wq => ∃ j : Nat, j ≤ m ∧ m - j ≤ gg ∧ i = .int .i64 j ∧ Hid (OwnV wq (w.heap.size + 1) wq.heap.size (.slice (some ⟨w.heap.size + 1, 0, none⟩) sn sn) (capN ps O j)) ∧ Hid (Below wa.heap.size wa wq))
      case atStart => exact ⟨0, Nat.zero_le _, by omega, rfl, HO0, HB⟩
      case round =>
        clear x0 x1 x2 x3 HBX HTX HO0 HB
        obtain ⟨j, hj, hgg, rfl, HO, HB⟩ := hrel
        have HBX := Lib.hid (HB2.out.trans (HB.out.mono HB2.out.size))
        have HTX := Lib.hid (HT2.out.below HB.out HT2.out.lt)
        obtain ⟨x0, x1, x2, x3⟩ := HTX.out.cells
        by_cases hlt : j < m
        · have CB := Lib.hid (CS.out j)
          have KB := Lib.hid (KS.out j)
          have NB := Lib.hid (CS.out (j + 1))
          have CLj := Lib.hid (CL.out j)
          have CLn := Lib.hid (CL.out (j + 1))
          have LF := Lib.hid (fun (x : Nat) (hx : x < ps.length) (hl : leafB ps x = true) => show (capN ps O (j + 1)).getD x 0 = (capN ps O j).getD x 0 from by rw [CLF.out (j + 1) x hx hl, CLF.out j x hx hl])
          have INN := Lib.hid (fun (x : Nat) (hx : x < ps.length) (hl : leafB ps x = false) => show (capN ps O (j + 1)).getD x 0 = max (S.getD x 0 * zs.getD x 0) (kidT ps (capN ps O j) x) from by
            rw [← OA.out x hx]; exact capS_inner hx hl)
          obtain ⟨C, hC⟩ : ∃ C, C = capN ps O j := ⟨_, rfl⟩
          obtain ⟨D, hD⟩ : ∃ D, D = capN ps O (j + 1) := ⟨_, rfl⟩
          have HDH := Lib.hid hD
          rw [← hC] at CB KB CLj LF INN HO
          rw [← hD] at NB CLn LF INN
          have cl : C.length = sn := by rw [CLj.out, SNE.out]
          have IV : IntsV wr wr.heap.size (.slice (some ⟨w.heap.size + 1, 0, none⟩) sn sn) C := HO.out.intsV
          have CG := Lib.hid (GO.out wr C _ HBX.out CLj.out (fun y hy => by have := CB.out y hy; omega) IV)
          clear IV cl hC hD
          go_wp2_with fail
          refine CG.out.mono ?_
          rintro e w4 ⟨ug, rfl, o4, b4⟩
          obtain ⟨gg2, cg, rfl, hg1, hg2⟩ := o4.shape (by rw [gonL_len]; omega)
          have HB4 := Lib.hid (HB.out.trans (b4.mono HB.out.size))
          have HO4 := (HO.out.below b4).wide b4.size (Nat.le_refl _)
          have M0 : Hid (midL C D ps.length 0 = C) := Lib.hid (midL_zero CLj.out)
          rw [← M0.out] at HO4
          have HO4H := Lib.hid HO4
          have DC : Hid (∀ y, y < ps.length → w4.cell? ⟨gg2, y, none⟩ = some (.int .i64 (kidT ps C y))) := Lib.hid (fun y hy => by
            have := o4.cellGet (j := y) (by rw [gonL_len]; exact hy)
            rwa [gonL_all hy] at this)
          have G2 := Lib.hid hg2
          have G1 := Lib.hid (show w.heap.size + 2 ≤ gg2 from by
            have h1 := HO.out.lt (w.heap.size + 1) rfl
            omega)
          obtain ⟨gn, hgn⟩ : ∃ gn, gn = (gonL ps C ps.length).length := ⟨_, rfl⟩
          have gl1 : gn ≤ ps.length := by rw [hgn, gonL_len]; exact Nat.le_refl _
          have gl2 : ps.length ≤ gn := by rw [hgn, gonL_len]; exact Nat.le_refl _
          rw [← hgn]
          clear o4 b4 hg1 hg2 hgn HO4 HO HB HBX HTX x0 x1 x2 x3 CG GO
          go_wp2_with fail
          go_loopw [32] (fun i wq => ∃ k : Nat, k ≤ ps.length ∧ i = .int .i64 k ∧ Hid (OwnV wq (w.heap.size + 1) wq.heap.size (.slice (some ⟨w.heap.size + 1, 0, none⟩) sn sn) (midL C D ps.length k)) ∧ Hid (∀ y, y < ps.length → wq.cell? ⟨gg2, y, none⟩ = some (.int .i64 (kidT ps C y))) ∧ Hid (gg2 < wq.heap.size) ∧ Hid (Below wa.heap.size wa wq)) (fun i _ => ps.length - (intOf i).toNat)
          case atStart => exact ⟨0, Nat.zero_le _, rfl, HO4H, DC, G2, HB4⟩
          case round =>
            clear HO4H DC G2 HB4
            obtain ⟨k, hk, rfl, HO, HD, HG, HB⟩ := hrel
            have HBX := Lib.hid (HB2.out.trans (HB.out.mono HB2.out.size))
            have HTX := Lib.hid (HT2.out.below HB.out HT2.out.lt)
            obtain ⟨x0, x1, x2, x3⟩ := HTX.out.cells
            by_cases hlt3 : k < ps.length
            · have hdk := HD.out k hlt3
              have CI := Lib.hid (IE2.out wr k hlt3 HBX.out)
              have kb := KB.out k
              have nb := NB.out k hlt3
              have i0' : (0 : Int) ≤ (k : Int) := by omega
              have i1' : (k : Int) < (ps.length : Int) := by omega
              have i2' : (k : Int) < (sn : Int) := by omega
              have i3' : (k : Int) < (gn : Int) := by omega
              have se := midL_set (A := C) (B := D) hlt3
              cases hl : leafB ps k
              · have inn := INN.out k hlt3 hl
                rw [hl] at CI
                have CP := Lib.hid (fun w' hb => PD.out w' k hlt3 hb)
                have os := OS.out k hlt3
                obtain ⟨kk, hkk⟩ : ∃ kk, kk = kidT ps C k := ⟨_, rfl⟩
                rw [← hkk] at hdk inn
                obtain ⟨c, hcc⟩ : ∃ c, c = S.getD k 0 * zs.getD k 0 := ⟨_, rfl⟩
                rw [← hcc] at CP os inn
                rw [inn] at se nb
                have SE := Lib.hid se
                clear hl hkk hcc se inn
                go_wp2_with fail
                refine CI.out.mono ?_
                rintro e w5 ⟨rfl, b5⟩
                have HB5 := Lib.hid (HB.out.trans (b5.mono HB.out.size))
                have HBX5 := Lib.hid (HB2.out.trans (HB5.out.mono HB2.out.size))
                have HTX5 := Lib.hid (HTX.out.below b5 HTX.out.lt)
                have HO5 := Lib.hid ((HO.out.below b5).wide b5.size (Nat.le_refl _))
                have HD5 : Hid (∀ y, y < ps.length → w5.cell? ⟨gg2, y, none⟩ = some (.int .i64 (kidT ps C y))) := Lib.hid (fun y hy => (b5.cell (p := ⟨gg2, y, none⟩) HG.out).trans (HD.out y hy))
                have HG5 := Lib.hid (Nat.lt_of_lt_of_le HG.out b5.size)
                clear b5 x0 x1 x2 x3 HB HO HD HG
                obtain ⟨x0, x1, x2, x3⟩ := HTX5.out.cells
                have CP5 := Lib.hid (CP.out w5 HBX5.out)
                go_wp2_with fail
                refine CP5.out.mono ?_
                rintro e w6 ⟨rfl, b6⟩
                have HB6 := Lib.hid (HB5.out.trans (b6.mono HB5.out.size))
                have HO6 := Lib.hid ((HO5.out.below b6).wide b6.size (Nat.le_refl _))
                have HD6 : Hid (∀ y, y < ps.length → w6.cell? ⟨gg2, y, none⟩ = some (.int .i64 (kidT ps C y))) := Lib.hid (fun y hy => (b6.cell (p := ⟨gg2, y, none⟩) HG5.out).trans (HD5.out y hy))
                have HG6 := Lib.hid (Nat.lt_of_lt_of_le HG5.out b6.size)
                clear b6 HB5 HO5 HD5 HG5 x0 x1 x2 x3
                have hold := HO6.out.cellGet (j := k) (by rw [midL_len]; exact hlt3)
                have hfz := HO6.out.frozenGet k
                have O7 := Lib.hid (HO6.out.setAt k (x := max c kk) (by unfold InI64; omega))
                rw [SE.out] at O7
                have B7 := Lib.hid (HB6.out.setCell (p := ⟨w.heap.size + 1, k, none⟩) (by simp; have := SZ.out; omega) (.int .i64 (max c kk)))
                have D7 : Hid (∀ y, y < ps.length → (w6.setCell ⟨w.heap.size + 1, k, none⟩ (.int .i64 (max c kk))).cell? ⟨gg2, y, none⟩ = some (.int .i64 (kidT ps C y))) := Lib.hid (fun y hy => by rw [World.cell?_setCell_other _ _ _ _ (by intro e; injection e; have := G1.out; omega)]; exact HD6.out y hy)
                have G7 : Hid (gg2 < (w6.setCell ⟨w.heap.size + 1, k, none⟩ (.int .i64 (max c kk))).heap.size) := Lib.hid (by simpa [World.setCell] using HG6.out)
                clear HO6 HB6 HD6 HG6
                go_wp2_with fail
                go_roundw
                case rel => exact ⟨k + 1, by omega, by go_num, Lib.hid (by have h := O7.out; simpa [World.setCell] using h), D7, G7, B7⟩
                case measure => simp [intOf]; omega
              · have SM := Lib.hid (midL_same (A := C) (B := D) hlt3 (LF.out k hlt3 hl))
                rw [hl] at CI
                clear hl se
                go_wp2_with fail
                refine CI.out.mono ?_
                rintro e w5 ⟨rfl, b5⟩
                have HB5 := Lib.hid (HB.out.trans (b5.mono HB.out.size))
                have HO5 := Lib.hid ((HO.out.below b5).wide b5.size (Nat.le_refl _))
                have HD5 : Hid (∀ y, y < ps.length → w5.cell? ⟨gg2, y, none⟩ = some (.int .i64 (kidT ps C y))) := Lib.hid (fun y hy => (b5.cell (p := ⟨gg2, y, none⟩) HG.out).trans (HD.out y hy))
                have HG5 := Lib.hid (Nat.lt_of_lt_of_le HG.out b5.size)
                clear b5 x0 x1 x2 x3 HB HO HD HG
                go_wp2_with fail
                go_roundw
                case rel => exact ⟨k + 1, by omega, by go_num, Lib.hid (by rw [SM.out]; exact HO5.out), HD5, HG5, HB5⟩
                case measure => simp [intOf]; omega
            · have hkn : k = ps.length := by omega
              have i3' : ¬ (k : Int) < (gn : Int) := by omega
              have HOE : Hid (OwnV wr (w.heap.size + 1) wr.heap.size (.slice (some ⟨w.heap.size + 1, 0, none⟩) sn sn) (capN ps O (j + 1))) := Lib.hid (by have h := HO.out; rw [hkn, midL_all CLn.out, HDH.out] at h; exact h)
              clear HO hkn HD HG
              go_wp2_with fail
              go_roundg (m - (j + 1))
              case rel => exact ⟨j + 1, by omega, by omega, by go_num, HOE, HB⟩
              case measure => omega
        · have FIN : Hid (NewInts (capN ps O m) w (.returned (.slice (some ⟨w.heap.size + 1, 0, none⟩) sn sn)) wr) := Lib.hid ⟨_, rfl, by
            have h := HO.out.low (lo' := w.heap.size) (by omega)
            have e : j = m := by omega
            rwa [e] at h, HBX.out⟩
          go_wp2_with fail
          go_ret
          exact FIN.out
end Go.Proofs.Ytagljebfbacdhaa
namespace Go.Proofs.Ytagljebfbacdhaa
open Go.RowKit
set_option linter.unusedVariables false
theorem Game.parts {w : World} {B : Nat} {g : Value} {ps ws zs : List Int} (h : Game w B g ps ws zs) : ∃ p1 c1 p2 c2 p3 n3 c3 p4 c4, g = .agg #[.slice p1 ps.length c1, .slice p2 ws.length c2, .slice p3 n3 c3, .slice p4 zs.length c4] := by
  obtain ⟨v1, v2, us, u, e, h1, ⟨p3, c3, e3, _⟩, ⟨p4, c4, e4, _⟩⟩ := h
  obtain ⟨p1, c1, p2, c2, hs⟩ := h1.shape
  injection hs with hs
  injection hs with hs
  injection hs with hs1 hs
  injection hs with hs2 hs
  exact ⟨p1, c1, p2, c2, p3, _, c3, p4, c4, by rw [e, hs1, hs2, e3, e4]⟩
set_option maxRecDepth 100000 in
set_option maxHeartbeats 2000000 in
theorem leastI (ps ws zs : List Int) (g : Value) (w : World) (pr : Proc ps ws zs) (h : Game w w.heap.size g ps ws zs) :
    Calls Try.prog 62 #[g] w (NewInts (capT ps (ownT (sumsT ps ws) zs ps.length)) w) := by
  have C := Lib.hid (fun w' (hb : Below w.heap.size w w') => capsI ps ws zs 24 g w' (by omega) pr (h.boxed hb))
  obtain ⟨p1, c1, p2, c2, p3, n3, c3, p4, c4, rfl⟩ := h.parts
  have B1 := Lib.hid ((Below.refl w.heap.size w).alloc (Nat.le_refl _) (.cells #[.slice p1 ps.length c1, .slice p2 ws.length c2, .slice p3 n3 c3, .slice p4 zs.length c4] 60))
  have R1 := show GBox (w.alloc (.cells #[.slice p1 ps.length c1, .slice p2 ws.length c2, .slice p3 n3 c3, .slice p4 zs.length c4] 60)) w.heap.size _ _ _ _ from alloc_heap w _
  obtain ⟨x0, x1, x2, x3⟩ := R1.cells
  obtain ⟨wa, hwa⟩ : ∃ wa, wa = w.alloc (.cells #[.slice p1 ps.length c1, .slice p2 ws.length c2, .slice p3 n3 c3, .slice p4 zs.length c4] 60) := ⟨_, rfl⟩
  rw [← hwa] at B1
  clear R1 h
  go_enter Try.func62, Try.ntmps62
  go_wp2_with fail
  rw [← hwa]
  refine (C.out wa B1.out).mono ?_
  rintro e w1 ⟨u, rfl, o1, b1⟩
  have FIN : Hid (NewInts (capT ps (ownT (sumsT ps ws) zs ps.length)) w (.returned u) w1) := Lib.hid ⟨_, rfl, o1.low B1.out.size, B1.out.trans (b1.mono B1.out.size)⟩
  clear o1 b1
  go_wp2_with fail
  go_ret
  exact FIN.out
/-- What LeastCaps returns. -/
def ifLea (ps ws zs L : List Int) : List Int := if procB ps ws zs = true then L else []
theorem ifLea_yes {ps ws zs L : List Int} (h : procB ps ws zs = true) : ifLea ps ws zs L = L := by unfold ifLea; rw [h]; rfl
theorem ifLea_no {ps ws zs L : List Int} (h : procB ps ws zs = false) : ifLea ps ws zs L = [] := by unfold ifLea; rw [h]; rfl
theorem cap_len (ps ws zs : List Int) : (ifLea ps ws zs (capT ps (ownT (sumsT ps ws) zs ps.length))).length ≤ 1048576 := by
  unfold ifLea
  split
  · rename_i h
    have := (procB_iff.1 h).good.n24
    have e : (capT ps (ownT (sumsT ps ws) zs ps.length)).length = ps.length := capN_len (ownT_len _ _ _) 24
    omega
  · simp
set_option maxRecDepth 100000 in
set_option maxHeartbeats 4000000 in
theorem leaI (ps ws zs : List Int) (v u : Value) (w : World) (hn1 : zs.length ≤ 1048576) (h : TreeV w w.heap.size v ps ws) (hu : IntsV w w.heap.size u zs) :
    Calls Try.prog 48 #[v, u] w (NewIntsB (ifLea ps ws zs (capT ps (ownT (sumsT ps ws) zs ps.length))) (procB ps ws zs) w) := by
  have GC := Lib.hid (fun w' (hb : Below w.heap.size w w') => gameI ps ws zs v u w' hn1 (h.boxed hb) ((hu.below hb).more hb.size))
  obtain ⟨p1, c1, p2, c2, rfl⟩ := h.shape
  obtain ⟨q, d, rfl, _⟩ := hu
  clear h
  have B1 := (Below.refl w.heap.size w).alloc (Nat.le_refl _) (.cells #[.slice p1 ps.length c1, .slice p2 ws.length c2] 28)
  have T1 := Lib.hid (show TBox (w.alloc (.cells #[.slice p1 ps.length c1, .slice p2 ws.length c2] 28)) w.heap.size (.slice p1 ps.length c1) (.slice p2 ws.length c2) from alloc_heap w _)
  obtain ⟨x0, x1⟩ := T1.out.cells
  obtain ⟨wa, hwa⟩ : ∃ wa, wa = w.alloc (.cells #[.slice p1 ps.length c1, .slice p2 ws.length c2] 28) := ⟨_, rfl⟩
  rw [← hwa] at B1 T1
  have HBA := Lib.hid B1
  clear B1
  have GC2 := Lib.hid (GC.out wa HBA.out)
  cases hp : procB ps ws zs
  · have IS := Lib.hid (ifLea_no (L := capT ps (ownT (sumsT ps ws) zs ps.length)) hp)
    rw [IS.out]
    have G3 : Hid (Calls Try.prog 61 #[.agg #[.slice p1 ps.length c1, .slice p2 ws.length c2], .slice q zs.length d] wa (Gives (.tuple #[noGame, .bool false]) wa)) := Lib.hid (GC2.out.mono (fun e w1 hh => by
      obtain ⟨hb, ⟨_, h2⟩ | ⟨h1, _⟩⟩ := hh
      · exact ⟨h2, hb⟩
      · rw [hp] at h1; cases h1))
    clear hp GC GC2
    unfold noGame at G3
    go_enter Try.func48, Try.ntmps48
    go_wp2_with fail
    rw [← hwa]
    clear hwa x0 x1
    refine G3.out.mono ?_
    rintro e w1 ⟨rfl, b1⟩
    have HB1 := HBA.out.trans (b1.mono HBA.out.size)
    have HB2 := Lib.hid (HB1.alloc HB1.size (.cells #[.slice none 0 0, .slice none 0 0, .slice none 0 0, .slice none 0 0] 60))
    clear b1 HB1
    go_wp2_with fail
    go_ret2
    exact newInts_emptyG HB2.out (by simp)
  · have IS := Lib.hid (ifLea_yes (L := capT ps (ownT (sumsT ps ws) zs ps.length)) hp)
    rw [IS.out]
    have PR := Lib.hid (procB_iff.1 hp)
    have G3 : Hid (Calls Try.prog 61 #[.agg #[.slice p1 ps.length c1, .slice p2 ws.length c2], .slice q zs.length d] wa (fun e w' => ∃ g, e = .returned (.tuple #[g, .bool true]) ∧ Game w' w'.heap.size g ps ws zs ∧ Below wa.heap.size wa w')) := Lib.hid (GC2.out.mono (fun e w1 hh => by
      obtain ⟨hb, ⟨h1, _⟩ | ⟨_, g, h2, h3⟩⟩ := hh
      · rw [hp] at h1; cases h1
      · exact ⟨g, h2, h3, hb⟩))
    have LE := Lib.hid (fun g w1 (hg : Game w1 w1.heap.size g ps ws zs) w2 (hb : Below w1.heap.size w1 w2) => leastI ps ws zs g w2 PR.out (hg.boxed hb))
    clear hp GC GC2
    obtain ⟨R, hR⟩ : ∃ R, R = capT ps (ownT (sumsT ps ws) zs ps.length) := ⟨_, rfl⟩
    rw [← hR] at LE ⊢
    clear hR IS
    go_enter Try.func48, Try.ntmps48
    go_wp2_with fail
    rw [← hwa]
    clear hwa x0 x1
    refine G3.out.mono ?_
    rintro e w1 ⟨g, rfl, hg, b1⟩
    have HB1 := HBA.out.trans (b1.mono HBA.out.size)
    obtain ⟨P1, C1, P2, C2, P3, N3, C3, P4, C4, rfl⟩ := hg.parts
    have HB2 := Lib.hid (HB1.alloc HB1.size (.cells #[.slice P1 ps.length C1, .slice P2 ws.length C2, .slice P3 N3 C3, .slice P4 zs.length C4] 60))
    have L2 := Lib.hid (LE.out _ w1 hg _ ((Below.refl w1.heap.size w1).alloc (Nat.le_refl _) (.cells #[.slice P1 ps.length C1, .slice P2 ws.length C2, .slice P3 N3 C3, .slice P4 zs.length C4] 60)))
    have R1 := show GBox (w1.alloc (.cells #[.slice P1 ps.length C1, .slice P2 ws.length C2, .slice P3 N3 C3, .slice P4 zs.length C4] 60)) w1.heap.size _ _ _ _ from alloc_heap w1 _
    obtain ⟨y0, y1, y2, y3⟩ := R1.cells
    clear b1 HB1 hg R1
    obtain ⟨wb, hwb⟩ : ∃ wb, wb = w1.alloc (.cells #[.slice P1 ps.length C1, .slice P2 ws.length C2, .slice P3 N3 C3, .slice P4 zs.length C4] 60) := ⟨_, rfl⟩
    rw [← hwb] at HB2 L2
    go_wp2_with fail
    rw [← hwb]
    clear hwb y0 y1 y2 y3
    refine L2.out.mono ?_
    rintro e w2 ⟨u2, rfl, o2, b2⟩
    have FIN := Lib.hid (newInts_back HB2.out o2 b2)
    clear o2 b2
    go_wp2_with fail
    go_ret2
    exact FIN.out
end Go.Proofs.Ytagljebfbacdhaa
namespace Go.Proofs.Ytagljebfbacdhaa
open Go.RowKit
set_option linter.unusedVariables false
theorem OwnV.raiseC {w : World} {lo lo' hi g n c : Nat} {zs : List Int} (h : OwnV w lo hi (.slice (some ⟨g, 0, none⟩) n c) zs) (hg : lo' ≤ g) : OwnV w lo' hi (.slice (some ⟨g, 0, none⟩) n c) zs := by
  refine ⟨⟨h.row.1, ?_⟩, h.lt, h.room, h.in64⟩
  rcases h.row.2 with ⟨h1, _⟩ | ⟨g', cap, cur, h2, _, rest⟩
  · cases h1
  · refine .inr ⟨g', cap, cur, h2, ?_, rest⟩
    injection h2 with h2; injection h2 with h2; injection h2 with h2
    omega
theorem set_same {L : List Int} {x : Nat} (h : x < L.length) : L.set x (L.getD x 0) = L := by
  rw [List.getD_eq_getElem?_getD, List.getElem?_eq_getElem h]
  exact List.set_getElem_self h
/-- What the two rows are behind the first statement. -/
def TwoC (w : World) (ps E : List Int) (p1 p2 : Option Addr) (c1 c2 n2 g1 g2 : Nat) (wx : World) : Prop :=
  OwnV wx (w.heap.size + 1) wx.heap.size (.slice (some ⟨g1, 0, none⟩) ps.length ps.length) (List.replicate ps.length 0) ∧ (∀ j, j < E.length → wx.cell? ⟨g2, j, none⟩ = some (.int .i64 (E.getD j 0))) ∧ g1 ≠ g2 ∧ g2 < wx.heap.size ∧ w.heap.size + 1 ≤ g1 ∧
  TBox wx w.heap.size (.slice p1 ps.length c1) (.slice p2 n2 c2) ∧ Below w.heap.size w wx
theorem most_max (a b : Int) : (if b < a then a else b) = max a b := by omega
theorem moreC (a b : Int) (w : World) : Calls Try.prog 80 #[.int .i64 a, .int .i64 b] w fun e w' => e = .returned (.int .i64 (if b < a then a else b)) ∧ w = w' := by
  have D : Hid ((if b < a then a else b) = if b < a then a else b) := Lib.hid rfl
  by_cases h : b < a
  · have R : Hid ((if b < a then a else b) = a) := Lib.hid (by rw [if_pos h])
    rw [R.out]
    clear R D
    go_enter Try.func80, Try.ntmps80
    go_wp2
    go_ret
    exact ⟨rfl, rfl⟩
  · have R : Hid ((if b < a then a else b) = b) := Lib.hid (by rw [if_neg h])
    rw [R.out]
    clear R D
    go_enter Try.func80, Try.ntmps80
    go_wp2
    go_ret
    exact ⟨rfl, rfl⟩
set_option maxRecDepth 100000 in
set_option maxHeartbeats 8000000 in
theorem caps4S (ps ws zs : List Int) (v u : Value) (w : World) (pr : Proc ps ws zs) (h : TreeV w w.heap.size v ps ws) (hu : IntsV w w.heap.size u zs) :
    Calls Try.prog 58 #[v, u] w (NewInts (capT ps (ownT (sumsT ps ws) zs ps.length)) w) := by
  have gd := pr.good
  have EN := Lib.hid (fun w' (hb : Below w.heap.size w w') => sumsS ps ws v w' gd (h.boxed hb))
  have KS := Lib.hid (fun w' (L : List Int) u2 (hb : Below w.heap.size w w') (x : Nat) (hx : x < ps.length) (hL : L.length = ps.length) (hbd : ∀ y, y < ps.length → (L.getD y 0).natAbs ≤ 1000000000) (hv : IntsV w' w'.heap.size u2 L) => kids4S ps ws L v u2 x w' gd hx hL hbd (h.boxed hb) hv)
  have hlz := pr.len
  have hn24 := gd.n24
  have hn1 := gd.n1
  have WE := Lib.hid (fun (x : Nat) (hx : x < ps.length) => gd.end_iff hx)
  have WD := Lib.hid (fun (x : Nat) (hx : x < ps.length) => gd.w_bd hx)
  have NW := Lib.hid gd.nw
  have OS := Lib.hid (fun (x : Nat) (hx : x < ps.length) => own_small pr hx)
  have CS := Lib.hid (fun (x : Nat) (hx : x < ps.length) => show -479520 ≤ (capT ps (ownT (sumsT ps ws) zs ps.length)).getD x 0 ∧ (capT ps (ownT (sumsT ps ws) zs ps.length)).getD x 0 ≤ 479520 from cap_small pr 24 hx)
  have CL : Hid ((capT ps (ownT (sumsT ps ws) zs ps.length)).length = ps.length) := Lib.hid (capN_len (ownT_len _ _ _) 24)
  have LEAF := Lib.hid (fun (x : Nat) (hx : x < ps.length) (hl : leafB ps x = true) => show (capT ps (ownT (sumsT ps ws) zs ps.length)).getD x 0 = (sumsT ps ws).getD x 0 * zs.getD x 0 from by rw [← ownT_at (n := ps.length) hx]; exact capN_leaf hx hl 24)
  have INN := Lib.hid (fun (x : Nat) (hx : x < ps.length) (hl : leafB ps x = false) => show (capT ps (ownT (sumsT ps ws) zs ps.length)).getD x 0 = max ((sumsT ps ws).getD x 0 * zs.getD x 0) (kidT ps (capT ps (ownT (sumsT ps ws) zs ps.length)) x) from by
    rw [cap_all gd (ownT_len _ _ _) hx, ← ownT_at (n := ps.length) hx]
    unfold capX
    rw [if_neg (by rw [hl]; decide)])
  have HK := Lib.hid (fun (C : List Int) (x : Nat) (z : Int) => hiL_kid2 (C := C) gd (x := x) z)
  have SL : Hid ((sumsT ps ws).length = ps.length) := Lib.hid (sumsT_len gd.nw)
  have SB := Lib.hid (fun (x : Nat) (hx : x < ps.length) => sumsT_bd gd x hx)
  have ZB := Lib.hid pr.bd
  obtain ⟨v1, v2, rfl, ⟨p1, c1, rfl, l1, m1, _, i1⟩, ⟨p2, c2, rfl, l2, m2, _, i2⟩⟩ := h
  have P2 := Lib.hid i2
  obtain ⟨q, cq, rfl, lq, mq, zq, iq⟩ := hu
  have V1 := Lib.hid iq
  clear i1 i2 iq zq mq m1 m2 gd pr
  obtain ⟨i0, hi, hz0, hz1, hz2⟩ := info_parts intInfo
  have MK : Hid (∃ mk : World → World, ∀ w0, (Instr.makeSlice 22 (.int .i64 (ps.length : Int)) (.int .i64 (ps.length : Int))).run Try.prog w0 = .ok (.slice (some ⟨w0.heap.size, 0, none⟩) ps.length ps.length) (mk w0) ∧ (mk w0).ownsRow 0 3 1 (.slice (some ⟨w0.heap.size, 0, none⟩) ps.length ps.length) ps.length (List.replicate ps.length (.int .i64 0)) ∧ w0.grownBy (mk w0) none) := Lib.hid (by
    have hx : ∀ w0 : World, ∃ w', (Instr.makeSlice 22 (.int .i64 (ps.length : Int)) (.int .i64 (ps.length : Int))).run Try.prog w0 = .ok (.slice (some ⟨w0.heap.size, 0, none⟩) ps.length ps.length) w' ∧ w'.ownsRow 0 3 1 (.slice (some ⟨w0.heap.size, 0, none⟩) ps.length ps.length) ps.length (List.replicate ps.length (.int .i64 0)) ∧ w0.grownBy w' none := fun w0 => by
      obtain ⟨w', h1, h2, h3⟩ := run_make_full (P := Try.prog) w0 0 22 3 i0 (.int .i64 0) 1 Try.underlying22 hi hz0 hz1 .i64 .i64 ps.length (by rw [hz2]; omega) (by unfold maxLen; omega) (Nat.zero_le _)
      rw [show (Value.int .i64 0).cells = #[Value.int .i64 0] from rfl, Nat.mul_one, toList_madeCells_one] at h2
      exact ⟨w', h1, h2, h3⟩
    exact ⟨fun w0 => Classical.choose (hx w0), fun w0 => Classical.choose_spec (hx w0)⟩)
  obtain ⟨mk, hmk⟩ := MK.out
  have RUN := fun w0 => (hmk w0).1
  have MKO := Lib.hid (fun w0 => OwnV.made (lo := 0) (hmk w0).2.1)
  have MKB : Hid (∀ w0 : World, Below w0.heap.size w0 (mk w0)) := Lib.hid (fun w0 => (Below.refl _ _).grown (hmk w0).2.2 (Nat.le_refl _) (by simp))
  clear hmk MK
  have B1 := (Below.refl w.heap.size w).alloc (Nat.le_refl _) (.cells #[.slice p1 ps.length c1, .slice p2 ws.length c2] 28)
  obtain ⟨wa, hwa⟩ : ∃ wa, wa = w.alloc (.cells #[.slice p1 ps.length c1, .slice p2 ws.length c2] 28) := ⟨_, rfl⟩
  have T1 : Hid (TBox wa w.heap.size (.slice p1 ps.length c1) (.slice p2 ws.length c2)) := Lib.hid (by rw [hwa]; exact alloc_heap w _)
  have sz : wa.heap.size = w.heap.size + 1 := by rw [hwa]; simp
  rw [← hwa] at B1
  have HBA := Lib.hid B1
  have SZ := Lib.hid sz
  clear B1 sz
  obtain ⟨x0, x1⟩ := T1.out.cells
  obtain ⟨S, hS⟩ : ∃ S, S = sumsT ps ws := ⟨_, rfl⟩
  rw [← hS] at EN OS CS CL LEAF INN SL SB ⊢
  obtain ⟨C, hC⟩ : ∃ C, C = capT ps (ownT S zs ps.length) := ⟨_, rfl⟩
  rw [← hC] at CS CL LEAF INN ⊢
  clear hS hC
  have EP : 0 < S.length := by rw [SL.out]; exact hn1
  rw [hlz] at lq ⊢
  have zle1 : zs.length ≤ ps.length := by omega
  have zle2 : ps.length ≤ zs.length := by omega
  clear hlz
  go_enter Try.func58, Try.ntmps58
  go_upto_region 1 with fail
  rw [← hwa]
  clear hwa
  go_cut [5, 6] (fun o e wx => ∃ g1 g2 ce, o = .slice (some ⟨g1, 0, none⟩) ps.length ps.length ∧ e = .slice (some ⟨g2, 0, none⟩) S.length ce ∧ Hid (TwoC w ps S p1 p2 c1 c2 ws.length g1 g2 wx))
  case first =>
    have HE0 := Lib.hid (show MBt w w.heap.size (.slice p1 ps.length c1) (.slice p2 ws.length c2) wa from ⟨T1.out, HBA.out⟩)
    have HD := Lib.hid HE0.out.drew
    have KC : Hid (∀ w', Hid (MBt w w.heap.size (.slice p1 ps.length c1) (.slice p2 ws.length c2) w') → w'.cell? ⟨w.heap.size, 0, none⟩ = some (.slice p1 ps.length c1) ∧ w'.cell? ⟨w.heap.size, 1, none⟩ = some (.slice p2 ws.length c2)) := Lib.hid (fun w' he => he.out.1.cells)
    have KM : Hid (∀ w', Hid (MBt w w.heap.size (.slice p1 ps.length c1) (.slice p2 ws.length c2) w') → Hid (MBt w w.heap.size (.slice p1 ps.length c1) (.slice p2 ws.length c2) (mk w'))) := Lib.hid (fun w' he => Lib.hid (he.out.next (MKB.out _)))
    have HDM := KM.out _ HD
    have CE : Hid (∀ w', Hid (MBt w w.heap.size (.slice p1 ps.length c1) (.slice p2 ws.length c2) w') → Calls Try.prog 59 #[.agg #[.slice p1 ps.length c1, .slice p2 ws.length c2]] w' (NewInts S w')) := Lib.hid (fun w' he => EN.out w' he.out.2)
    have TA : Hid (∀ (w8 : World) (g2 ce : Nat), Below (mk wa.drew).heap.size (mk wa.drew) w8 → OwnV w8 (mk wa.drew).heap.size w8.heap.size (.slice (some ⟨g2, 0, none⟩) S.length ce) S → (mk wa.drew).heap.size ≤ g2 → g2 < w8.heap.size → TwoC w ps S p1 p2 c1 c2 ws.length wa.drew.heap.size g2 w8) := Lib.hid (fun w8 g2 ce b8 o8 h1 h2 => by
      have hsz : wa.drew.heap.size = w.heap.size + 1 := SZ.out
      have hlt := (MKO.out wa.drew).lt wa.drew.heap.size rfl
      refine ⟨((MKO.out wa.drew).raiseC (by omega)).below b8 |>.wide b8.size (Nat.le_refl _), fun j hj => o8.cellGet hj, by omega, h2, by omega, HDM.out.1.below b8 HDM.out.1.lt, HDM.out.2.trans (b8.mono HDM.out.2.size)⟩)
    have TB : Hid (∀ (w8 : World) (g2 ce : Nat), Hid (MBt w w.heap.size (.slice p1 ps.length c1) (.slice p2 ws.length c2) w8) → w.heap.size + 1 ≤ w8.heap.size → OwnV w8 wa.drew.heap.size w8.heap.size (.slice (some ⟨g2, 0, none⟩) S.length ce) S → g2 < w8.heap.size → TwoC w ps S p1 p2 c1 c2 ws.length w8.heap.size g2 (mk w8)) := Lib.hid (fun w8 g2 ce he h1 o8 h2 => by
      have hb := MKB.out w8
      exact ⟨(MKO.out w8).raiseC h1, fun j hj => (hb.cell (p := ⟨g2, j, none⟩) h2).trans (o8.cellGet hj), by omega, by have := hb.size; omega, h1, (KM.out _ he).out.1, (KM.out _ he).out.2⟩)
    have S8 : Hid (∀ w8 : World, Below wa.drew.heap.size wa.drew w8 → w.heap.size + 1 ≤ w8.heap.size) := Lib.hid (fun w8 b8 => by have := b8.size; have hsz : wa.drew.heap.size = w.heap.size + 1 := SZ.out; omega)
    go_region_held3 (fun w' => w'.cell? ⟨w.heap.size, 0, none⟩ = some (.slice p1 ps.length c1) ∧ w'.cell? ⟨w.heap.size, 1, none⟩ = some (.slice p2 ws.length c2))
      (first | exact KC.out _ HD | exact KC.out _ HDM | exact KC.out _ (by assumption) | exact KC.out _ (KM.out _ (by assumption)) | go_keep)
      (first
        | (go_at_call 59; (with_reducible refine (CE.out _ (by first | exact HD | exact HDM | assumption)).mono ?_); rintro e w8 ⟨u8, rfl, o8, b8⟩; (obtain ⟨g2, ce, rfl, hg1, hg2⟩ := o8.shape EP); (have HE8 := Lib.hid (MBt.next (Hid.out (by first | exact HD | exact HDM | assumption)) b8))))
    all_goals
      go_wp2_with fail
      go_meet
      refine ⟨_, _, _, rfl, rfl, Lib.hid ?_⟩
      first
        | exact TA.out _ _ _ b8 o8 hg1 hg2
        | exact TB.out _ _ _ HE8 (S8.out _ b8) o8 hg2
  obtain ⟨g1, g2, ce, rfl, rfl, hT⟩ := hcut
  obtain ⟨w3, rfl⟩ : ∃ w3 : World, w3 = wc := ⟨_, rfl⟩
  have OZ : Hid (OwnV w3 (w.heap.size + 1) w3.heap.size (.slice (some ⟨g1, 0, none⟩) ps.length ps.length) (hiL C ps.length ps.length)) := Lib.hid (by rw [hiL_top]; exact hT.out.1)
  have DC := Lib.hid hT.out.2.1
  have NE := hT.out.2.2.1
  have G2 := Lib.hid hT.out.2.2.2.1
  have G1 := hT.out.2.2.2.2.1
  have T3 := Lib.hid hT.out.2.2.2.2.2.1
  have B3 := Lib.hid hT.out.2.2.2.2.2.2
  obtain ⟨sn, hsn⟩ : ∃ sn, sn = S.length := ⟨_, rfl⟩
  have le3 : sn ≤ ps.length := by have := SL.out; omega
  have le4 : ps.length ≤ sn := by have := SL.out; omega
  rw [← hsn] at DC ⊢
  clear hT T1 HBA EN RUN MKO MKB x0 x1 SZ hsn EP
  go_wp2_with fail
  go_loopg [7] ps.length (fun gg i wr => ∃ k : Nat, k ≤ ps.length ∧ k ≤ gg ∧ i = .int .i64 ((k : Int) - 1) ∧ Hid (OwnV wr (w.heap.size + 1) wr.heap.size (.slice (some ⟨g1, 0, none⟩) ps.length ps.length) (hiL C ps.length k)) ∧ Hid (∀ j, j < sn → wr.cell? ⟨g2, j, none⟩ = some (.int .i64 (S.getD j 0))) ∧ Hid (g2 < wr.heap.size) ∧ Hid (TBox wr w.heap.size (.slice p1 ps.length c1) (.slice p2 ws.length c2)) ∧ Hid (Below w.heap.size w wr))
  case atStart => exact ⟨ps.length, Nat.le_refl _, Nat.le_refl _, rfl, OZ, DC, G2, T3, B3⟩
  case round =>
    clear OZ DC G2 T3 B3
    obtain ⟨k, hk, hgg, rfl, HO, HC, HG, HT, HB⟩ := hrel
    obtain ⟨x0, x1⟩ := HT.out.cells
    rcases Nat.eq_zero_or_pos k with hk0 | hk0
    · subst hk0
      have FIN : Hid (NewInts C w (.returned (.slice (some ⟨g1, 0, none⟩) ps.length ps.length)) wr) := Lib.hid ⟨_, rfl, by have h := HO.out.low (lo' := w.heap.size) (by omega); rwa [hiL_zero CL.out] at h, HB.out⟩
      clear HO
      go_wp2_with fail
      go_ret
      exact FIN.out
    · obtain ⟨x, rfl⟩ : ∃ x, k = x + 1 := ⟨k - 1, by omega⟩
      rw [show (((x + 1 : Nat) : Int) - 1) = (x : Int) by omega]
      have hlt : x < ps.length := by omega
      have hce := HC.out x (by omega)
      obtain ⟨b2, o2, hq2, hb2, hc2⟩ := P2.out.get (i := x) (by have := NW.out; omega)
      subst hq2
      obtain ⟨b3, o3, hq3, hb3, hc3⟩ := V1.out.get (i := x) (by omega)
      subst hq3
      have hcw : wr.cell? ⟨b2, o2 + x, none⟩ = some (.int .i64 (ws.getD x 0)) := by rw [HB.out.cell (p := ⟨b2, o2 + x, none⟩) hb2, hc2]
      have hcv : wr.cell? ⟨b3, o3 + x, none⟩ = some (.int .i64 (zs.getD x 0)) := by rw [HB.out.cell (p := ⟨b3, o3 + x, none⟩) hb3, hc3]
      have os := OS.out x hlt
      have we := WE.out x hlt
      have wd := WD.out x hlt
      have hold := HO.out.cellGet (j := x) (by rw [hiL_len]; exact hlt)
      have hfz := HO.out.frozenGet x
      obtain ⟨old, hod⟩ : ∃ old, old = (hiL C ps.length (x + 1)).getD x 0 := ⟨_, rfl⟩
      obtain ⟨sx, hsx⟩ : ∃ sx, sx = S.getD x 0 := ⟨_, rfl⟩
      obtain ⟨zx, hzx⟩ : ∃ zx, zx = zs.getD x 0 := ⟨_, rfl⟩
      obtain ⟨wx, hwx⟩ : ∃ wx, wx = ws.getD x 0 := ⟨_, rfl⟩
      have LF := LEAF.out x hlt
      have IN := INN.out x hlt
      rw [← hod] at hold
      rw [← hsx] at hce os LF IN
      rw [← hzx] at hcv os LF IN
      rw [← hwx] at hcw we wd
      have HHK := Lib.hid (HK.out C x (sx * zx))
      have HSET := Lib.hid (hiL_set (C := C) hlt)
      have O4 := Lib.hid (HO.out.setAt x (x := sx * zx) (by unfold InI64; omega))
      have C4 : Hid (∀ j, j < sn → (wr.setCell ⟨g1, x, none⟩ (.int .i64 (sx * zx))).cell? ⟨g2, j, none⟩ = some (.int .i64 (S.getD j 0))) := Lib.hid (fun j hj => by rw [World.cell?_setCell_other _ _ _ _ (by intro e; injection e; omega)]; exact HC.out j hj)
      have G4 : Hid (g2 < (wr.setCell ⟨g1, x, none⟩ (.int .i64 (sx * zx))).heap.size) := Lib.hid (by simpa [World.setCell] using HG.out)
      have T4 := Lib.hid (HT.out.set (g := g1) (o := x) (x := .int .i64 (sx * zx)) (by omega))
      have B4 := Lib.hid (HB.out.setCell (p := ⟨g1, x, none⟩) (by simp; omega) (.int .i64 (sx * zx)))
      have W4 : Hid ((wr.setCell ⟨g1, x, none⟩ (.int .i64 (sx * zx))).cell? ⟨b2, o2 + x, none⟩ = some (.int .i64 wx)) := Lib.hid (by rw [B4.out.cell (p := ⟨b2, o2 + x, none⟩) hb2, hc2, hwx])
      have i0 : (0 : Int) ≤ (x : Int) := by omega
      have i1 : (x : Int) < (ps.length : Int) := by omega
      have i2 : (x : Int) < (sn : Int) := by omega
      have i3 : (x : Int) < (ws.length : Int) := by have := NW.out; omega
      have WRH := Lib.hid (show IntKind.i64.wrap (sx * zx) = sx * zx from IntWalk.i64_in _ (by omega))
      have OLEN : Hid (((hiL C ps.length (x + 1)).set x (sx * zx)).length = ps.length) := Lib.hid (by rw [List.length_set, hiL_len])
      have OBD : Hid (∀ y, y < ps.length → (((hiL C ps.length (x + 1)).set x (sx * zx)).getD y 0).natAbs ≤ 1000000000) := Lib.hid (fun y hy => by
        by_cases e : x = y
        · subst e; rw [getD_set_same (by rw [hiL_len]; exact hy)]; omega
        · rw [getD_set_other e, hiL_at hy]
          split
          · have := CS.out y hy; omega
          · simp)
      have OAT : Hid (((hiL C ps.length (x + 1)).set x (sx * zx)).getD x 0 = sx * zx) := Lib.hid (getD_set_same (by rw [hiL_len]; exact hlt))
      have OSET : Hid (∀ z, (((hiL C ps.length (x + 1)).set x (sx * zx)).set x z) = (hiL C ps.length (x + 1)).set x z) := Lib.hid (fun z => List.set_set ..)
      obtain ⟨M, hM⟩ : ∃ M, M = (hiL C ps.length (x + 1)).set x (sx * zx) := ⟨_, rfl⟩
      rw [← hM] at O4 OLEN OBD HHK OAT OSET
      clear hod hsx hzx hwx hM HO HC HG HT HB hc2 hc3 x0 x1
      have WR := WRH.out
      go_wp2_with fail
      go_region
      clear WR WRH
      have O5 : Hid (OwnV (wr.setCell ⟨g1, x, none⟩ (.int .i64 (sx * zx))).drew (w.heap.size + 1) (wr.setCell ⟨g1, x, none⟩ (.int .i64 (sx * zx))).drew.heap.size (.slice (some ⟨g1, 0, none⟩) ps.length ps.length) M) := Lib.hid (by have h := O4.out.below (below_drew (Below.refl _ _)); simpa [World.setCell] using h)
      have C5 : Hid (∀ j, j < sn → (wr.setCell ⟨g1, x, none⟩ (.int .i64 (sx * zx))).drew.cell? ⟨g2, j, none⟩ = some (.int .i64 (S.getD j 0))) := C4
      have G5 : Hid (g2 < (wr.setCell ⟨g1, x, none⟩ (.int .i64 (sx * zx))).drew.heap.size) := G4
      have T5 : Hid (TBox (wr.setCell ⟨g1, x, none⟩ (.int .i64 (sx * zx))).drew w.heap.size (.slice p1 ps.length c1) (.slice (some ⟨b2, o2, none⟩) ws.length c2)) := T4
      have B5 : Hid (Below w.heap.size w (wr.setCell ⟨g1, x, none⟩ (.int .i64 (sx * zx))).drew) := Lib.hid (below_drew B4.out)
      have W5 : (wr.setCell ⟨g1, x, none⟩ (.int .i64 (sx * zx))).drew.cell? ⟨b2, o2 + x, none⟩ = some (.int .i64 wx) := W4.out
      have OI5 := Lib.hid O5.out.intsV
      have cx5 := O5.out.cellGet (j := x) (by rw [OLEN.out]; exact hlt)
      rw [OAT.out] at cx5
      have fz5 := O5.out.frozenGet x
      obtain ⟨w5, hw5⟩ : ∃ w5, w5 = (wr.setCell ⟨g1, x, none⟩ (.int .i64 (sx * zx))).drew := ⟨_, rfl⟩
      rw [← hw5] at O5 C5 G5 T5 B5 W5 OI5 cx5 fz5 ⊢
      clear hw5 O4 C4 G4 T4 B4 W4 hold hcw hcv hce hfz
      obtain ⟨x0, x1⟩ := T5.out.cells
      have gl1 : g1 < w5.heap.size := O5.out.lt g1 (by simp [Value.ownBlock])
      by_cases h1 : wx = 0
      · have hl : leafB ps x = false := by
          cases hl : leafB ps x
          · rfl
          · have := we.2 hl; omega
        have IN2 := IN hl
        have cs := CS.out x hlt
        have CK : Hid (∀ w', Hid (Below w5.heap.size w5 w') → Calls Try.prog 65 #[.agg #[.slice p1 ps.length c1, .slice (some ⟨b2, o2, none⟩) ws.length c2], .slice (some ⟨g1, 0, none⟩) ps.length ps.length, .int .i64 (x : Int)] w' (Gives (.int .i64 (kidT ps C x)) w')) := Lib.hid (fun w' hb => by
          rw [← HHK.out]
          exact KS.out w' M _ (B5.out.trans (hb.out.mono B5.out.size)) x hlt OLEN.out OBD.out ((OI5.out.below hb.out).more hb.out.size))
        obtain ⟨kk, hkk⟩ : ∃ kk, kk = kidT ps C x := ⟨_, rfl⟩
        rw [← hkk] at CK IN2
        have HMAX := Lib.hid (show (if kk < sx * zx then sx * zx else kk) = C.getD x 0 from by rw [most_max, IN2])
        have hw0 : (wx == 0) = true := by simp [h1]
        subst h1
        have HD0 : Hid (Below w5.heap.size w5 w5) := Lib.hid (Below.refl _ _)
        have HD : Hid (Below w5.heap.size w5 w5.drew) := Lib.hid (below_drew (Below.refl _ _))
        have HS2 : Hid (M.set x (C.getD x 0) = hiL C ps.length x) := Lib.hid (by rw [OSET.out, HSET.out])
        have cs2 : InI64 (C.getD x 0) := by unfold InI64; omega
        have KX : Hid (∀ w', Hid (Below w5.heap.size w5 w') → w'.cell? ⟨w.heap.size, 0, none⟩ = some (.slice p1 ps.length c1) ∧ w'.cell? ⟨w.heap.size, 1, none⟩ = some (.slice (some ⟨b2, o2, none⟩) ws.length c2) ∧ w'.cell? ⟨g1, x, none⟩ = some (.int .i64 (sx * zx)) ∧ w'.frozen? ⟨g1, x, none⟩ = false) := Lib.hid (fun w' hb => ⟨(T5.out.below hb.out T5.out.lt).cells.1, (T5.out.below hb.out T5.out.lt).cells.2, (hb.out.cell (p := ⟨g1, x, none⟩) gl1).trans cx5, ((O5.out.below hb.out)).frozenGet x⟩)
        have FIN : Hid (∀ w', Hid (Below w5.heap.size w5 w') → Hid (OwnV (w'.setCell ⟨g1, x, none⟩ (.int .i64 (C.getD x 0))) (w.heap.size + 1) (w'.setCell ⟨g1, x, none⟩ (.int .i64 (C.getD x 0))).heap.size (.slice (some ⟨g1, 0, none⟩) ps.length ps.length) (hiL C ps.length x)) ∧ Hid (∀ j, j < sn → (w'.setCell ⟨g1, x, none⟩ (.int .i64 (C.getD x 0))).cell? ⟨g2, j, none⟩ = some (.int .i64 (S.getD j 0))) ∧ Hid (g2 < (w'.setCell ⟨g1, x, none⟩ (.int .i64 (C.getD x 0))).heap.size) ∧ Hid (TBox (w'.setCell ⟨g1, x, none⟩ (.int .i64 (C.getD x 0))) w.heap.size (.slice p1 ps.length c1) (.slice (some ⟨b2, o2, none⟩) ws.length c2)) ∧ Hid (Below w.heap.size w (w'.setCell ⟨g1, x, none⟩ (.int .i64 (C.getD x 0))))) := Lib.hid (fun w' hb => by
          have h1 := ((O5.out.below hb.out).wide hb.out.size (Nat.le_refl _)).setAt x (x := C.getD x 0) cs2
          rw [HS2.out] at h1
          have hs : (w'.setCell ⟨g1, x, none⟩ (.int .i64 (C.getD x 0))).heap.size = w'.heap.size := by simp [World.setCell]
          rw [hs]
          refine ⟨Lib.hid h1, Lib.hid (fun j hj => ?_), Lib.hid ?_, Lib.hid ?_, Lib.hid ?_⟩
          · rw [World.cell?_setCell_other _ _ _ _ (by intro e; injection e; omega), hb.out.cell (p := ⟨g2, j, none⟩) G5.out]; exact C5.out j hj
          · exact Nat.lt_of_lt_of_le G5.out hb.out.size
          · exact (T5.out.below hb.out T5.out.lt).set (g := g1) (o := x) (by omega)
          · exact (B5.out.trans (hb.out.mono B5.out.size)).setCell (p := ⟨g1, x, none⟩) (by simp; omega) _)
        clear hkk we wd hw0 IN LF IN2 cs OSET HSET O5 C5 G5 T5 B5 OI5 fz5 cx5
        obtain ⟨y0, y1, y2, y3⟩ := KX.out w5 HD0
        clear x0 x1
        go_wp2_with fail
        go_region_with (first
          | (go_at_call 65; (with_reducible refine (CK.out _ HD).mono ?_); rintro e w7 ⟨rfl, b7⟩; (have HB7 := hb_next (wa := w5) HD b7); (obtain ⟨z0, z1, z2, z3⟩ := KX.out w7 HB7); clear b7)
          | (go_at_call 80; (with_reducible refine (moreC _ _ _).mono ?_); rintro e w8 ⟨rfl, rfl⟩; rw [HMAX.out]))
        all_goals
          obtain ⟨F1, F2, F3, F4, F5⟩ := FIN.out _ HB7
          go_wp2_with fail
          go_roundg x
          case rel => exact ⟨x, by omega, by omega, by go_num, F1, F2, F3, F4, F5⟩
          case measure => omega
      · have hl : leafB ps x = true := we.1 (by omega)
        have hw0 : (wx == 0) = false := by simp [h1]
        have LF2 := LF hl
        have HS2 : Hid (M = hiL C ps.length x) := Lib.hid (by rw [← HSET.out, LF2, ← OSET.out, ← OAT.out]; exact (set_same (by rw [OLEN.out]; exact hlt)).symm)
        rw [HS2.out] at O5
        clear LF LF2 IN we wd OSET HSET OI5 fz5 cx5
        go_wp2_with fail
        go_roundg x
        case rel => exact ⟨x, by omega, by omega, by go_num, O5, C5, G5, T5, B5⟩
        case measure => omega
end Go.Proofs.Ytagljebfbacdhaa
