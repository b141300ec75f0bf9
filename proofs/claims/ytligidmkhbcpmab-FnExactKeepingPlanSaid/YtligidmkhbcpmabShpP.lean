/- Units that are taken from spots to spots, told by lists: row after row, or along the edge of what is left. No program is spoken of here. -/
import Derived.Test.YtligidmkhbcpmabPlnP
namespace Go.Proofs.Ytligidmkhbcpmab
set_option linter.unusedVariables false
/-- What is left, what is lacking, and the plan so far. -/
structure Shp where
  h : List Int
  l : List Int
  f : Nat → List Int
def updF (f : Nat → List Int) (i : Nat) (r : List Int) : Nat → List Int := fun j => if j = i then r else f j
theorem updF_at (f : Nat → List Int) (i : Nat) (r : List Int) : updF f i r i = r := by simp [updF]
theorem updF_ne (f : Nat → List Int) {i j : Nat} (r : List Int) (h : j ≠ i) : updF f i r j = f j := by simp [updF, h]
theorem updF_same (f : Nat → List Int) (i : Nat) : updF f i (f i) = f := by
  funext j
  unfold updF
  split
  · next h => rw [h]
  · rfl
theorem set_same {zs : List Int} {i : Nat} {x : Int} (h : x = zs.getD i 0) : zs.set i x = zs := by
  refine List.ext_getElem (by simp) (fun j h1 h2 => ?_)
  rw [List.getElem_set]
  split
  · next e => subst e; rw [h, List.getD_eq_getElem?_getD, List.getElem?_eq_getElem h2]; rfl
  · rfl
theorem getD_setY (zs : List Int) (i j : Nat) (x : Int) : (zs.set i x).getD j 0 = if i = j ∧ j < zs.length then x else zs.getD j 0 := by
  rw [List.getD_eq_getElem?_getD, List.getElem?_set]
  by_cases h : i = j
  · subst h
    by_cases h2 : i < zs.length
    · rw [if_pos rfl, if_pos h2, if_pos ⟨rfl, h2⟩]; rfl
    · rw [if_pos rfl, if_neg h2, if_neg (fun c => h2 c.2), List.getD_eq_getElem?_getD, List.getElem?_eq_none (by omega)]
  · rw [if_neg h, if_neg (fun c => h c.1), List.getD_eq_getElem?_getD]
/-- How many units can be taken. -/
def unT (S : Shp) (i k : Nat) : Int := min (S.h.getD i 0) (S.l.getD k 0)
def tkT (i k : Nat) (S : Shp) : Shp where
  h := S.h.set i (S.h.getD i 0 - unT S i k)
  l := S.l.set k (S.l.getD k 0 - unT S i k)
  f := updF S.f i ((S.f i).set k ((S.f i).getD k 0 + unT S i k))
theorem tk_none {S : Shp} {i k : Nat} (h : unT S i k = 0) : tkT i k S = S := by
  unfold tkT
  rw [h, set_same (by omega), set_same (by omega), set_same (by omega), updF_same]
/-- The numbers of a shipment: lengths and bounds. -/
structure ShOk (n : Nat) (S : Shp) : Prop where
  hl : S.h.length = n
  ll : S.l.length = n
  fl : ∀ i, i < n → (S.f i).length = n
  h0 : ∀ i, 0 ≤ S.h.getD i 0 ∧ S.h.getD i 0 ≤ 40
  l0 : ∀ i, 0 ≤ S.l.getD i 0 ∧ S.l.getD i 0 ≤ 40
  f0 : ∀ i k, i < n → k < n → 0 ≤ (S.f i).getD k 0 ∧ (S.f i).getD k 0 + S.h.getD i 0 ≤ 40
theorem un_bd {n : Nat} {S : Shp} (o : ShOk n S) (i k : Nat) : 0 ≤ unT S i k ∧ unT S i k ≤ S.h.getD i 0 ∧ unT S i k ≤ S.l.getD k 0 ∧ (unT S i k = S.h.getD i 0 ∨ unT S i k = S.l.getD k 0) := by
  have a := o.h0 i
  have b := o.l0 k
  unfold unT
  omega
theorem tk_h {n : Nat} {S : Shp} (o : ShOk n S) (i k j : Nat) : (tkT i k S).h.getD j 0 = if i = j ∧ j < n then S.h.getD j 0 - unT S i k else S.h.getD j 0 := by
  show (S.h.set i _).getD j 0 = _
  rw [getD_setY, o.hl]
  split
  · next e => rw [e.1]
  · rfl
theorem tk_l {n : Nat} {S : Shp} (o : ShOk n S) (i k j : Nat) : (tkT i k S).l.getD j 0 = if k = j ∧ j < n then S.l.getD j 0 - unT S i k else S.l.getD j 0 := by
  show (S.l.set k _).getD j 0 = _
  rw [getD_setY, o.ll]
  split
  · next e => rw [e.1]
  · rfl
theorem tk_ok {n : Nat} {S : Shp} (o : ShOk n S) (i k : Nat) : ShOk n (tkT i k S) := by
  have u := un_bd o i k
  refine ⟨by show (S.h.set _ _).length = n; rw [List.length_set]; exact o.hl, by show (S.l.set _ _).length = n; rw [List.length_set]; exact o.ll, fun j hj => ?_, fun j => ?_, fun j => ?_, fun j m hj hm => ?_⟩
  · show (updF S.f i _ j).length = n
    unfold updF
    split
    · next e => rw [List.length_set, ← e]; exact o.fl j hj
    · exact o.fl j hj
  · rw [tk_h o]
    have a := o.h0 j
    split
    · next e => rw [← e.1] at a ⊢; omega
    · exact a
  · rw [tk_l o]
    have a := o.l0 j
    split
    · next e => rw [← e.1] at a ⊢; omega
    · exact a
  · rw [tk_h o]
    have a := o.f0 j m hj hm
    show 0 ≤ (updF S.f i _ j).getD m 0 ∧ (updF S.f i _ j).getD m 0 + _ ≤ 40
    unfold updF
    by_cases e : j = i
    · subst e
      rw [if_pos rfl, if_pos ⟨rfl, hj⟩, getD_setY, o.fl j hj]
      split
      · next c =>
        obtain ⟨c1, _⟩ := c
        subst c1
        omega
      · omega
    · rw [if_neg e, if_neg (fun c => e c.1.symm)]
      exact a
/-- One row: all places before k. -/
def rwT (i : Nat) (S : Shp) : Nat → Shp
  | 0 => S
  | k + 1 => tkT i k (rwT i S k)
/-- All rows before i. -/
def alT (n : Nat) (S : Shp) : Nat → Shp
  | 0 => S
  | i + 1 => rwT i (alT n S i) n
theorem rw_ok {n : Nat} {S : Shp} (o : ShOk n S) (i : Nat) : ∀ k, ShOk n (rwT i S k)
  | 0 => o
  | k + 1 => tk_ok (rw_ok o i k) i k
theorem al_ok {n : Nat} {S : Shp} (o : ShOk n S) : ∀ i, ShOk n (alT n S i)
  | 0 => o
  | i + 1 => rw_ok (al_ok o i) i n
/-- Where nothing is left, nothing is taken. -/
theorem rw_stay {n : Nat} {S : Shp} (o : ShOk n S) {i k : Nat} (h : (rwT i S k).h.getD i 0 = 0) : ∀ j, rwT i S (k + j) = rwT i S k
  | 0 => rfl
  | j + 1 => by
    have a := rw_stay o h j
    show tkT i (k + j) (rwT i S (k + j)) = _
    rw [a]
    apply tk_none
    have b := un_bd (rw_ok o i k) i (k + j)
    omega
/-- Where nothing is lacking, nothing is taken. -/
theorem rw_full {n : Nat} {S : Shp} (o : ShOk n S) (i : Nat) : ∀ k, (∀ j, j < k → S.l.getD j 0 = 0) → rwT i S k = S
  | 0, _ => rfl
  | k + 1, h => by
    have a := rw_full o i k (fun j hj => h j (by omega))
    show tkT i k (rwT i S k) = S
    rw [a]
    apply tk_none
    have b := un_bd o i k
    have c := h k (by omega)
    omega
/-- The edge: where the walk along what is left stands. -/
structure Edg (n : Nat) (S0 : Shp) (i k : Nat) (S : Shp) : Prop where
  at_ : S = rwT i (alT n S0 i) k
  past : ∀ j, j < k → S.l.getD j 0 = 0
theorem edg_start (n : Nat) (S0 : Shp) : Edg n S0 0 0 S0 := ⟨rfl, fun j hj => by omega⟩
theorem edg_down {n : Nat} {S0 S : Shp} (o : ShOk n S0) {i k : Nat} (hk : k < n) (e : Edg n S0 i k S) (h : (tkT i k S).h.getD i 0 = 0) : Edg n S0 (i + 1) k (tkT i k S) := by
  have oS : ShOk n S := by rw [e.at_]; exact rw_ok (al_ok o i) i k
  have t1 : tkT i k S = rwT i (alT n S0 i) (k + 1) := by rw [e.at_]; rfl
  have t2 : alT n S0 (i + 1) = tkT i k S := by
    rw [t1]
    show rwT i (alT n S0 i) n = _
    have := rw_stay (al_ok o i) (i := i) (k := k + 1) (by rw [← t1]; exact h) (n - (k + 1))
    rwa [show k + 1 + (n - (k + 1)) = n by omega] at this
  have pz : ∀ j, j < k → (tkT i k S).l.getD j 0 = 0 := fun j hj => by
    rw [tk_l oS, if_neg (by omega)]; exact e.past j hj
  refine ⟨?_, pz⟩
  rw [t2, rw_full (tk_ok oS i k) (i + 1) k pz]
theorem edg_right {n : Nat} {S0 S : Shp} (o : ShOk n S0) {i k : Nat} (hi : i < n) (hk : k < n) (e : Edg n S0 i k S) (h : (tkT i k S).h.getD i 0 ≠ 0) : Edg n S0 i (k + 1) (tkT i k S) := by
  have oS : ShOk n S := by rw [e.at_]; exact rw_ok (al_ok o i) i k
  have u := un_bd oS i k
  refine ⟨by rw [e.at_]; rfl, fun j hj => ?_⟩
  rw [tk_h oS, if_pos ⟨rfl, hi⟩] at h
  rw [tk_l oS]
  split
  · next c => rw [← c.1]; omega
  · next c => exact e.past j (by omega)
theorem al_full {n : Nat} {S0 : Shp} (o : ShOk n S0) {i : Nat} (h : ∀ j, j < n → (alT n S0 i).l.getD j 0 = 0) : ∀ m, alT n S0 (i + m) = alT n S0 i
  | 0 => rfl
  | m + 1 => by
    have a := al_full o h m
    show rwT (i + m) (alT n S0 (i + m)) n = _
    rw [a]
    exact rw_full (al_ok o i) (i + m) n h
theorem edg_end {n : Nat} {S0 S : Shp} (o : ShOk n S0) {i k : Nat} (hi : i ≤ n) (hk : k ≤ n) (e : Edg n S0 i k S) (h : i = n ∨ k = n) : S = alT n S0 n := by
  have hp := e.past
  have ha := e.at_
  by_cases hin : i = n
  · subst hin
    have o2 := al_ok o i
    have : ∀ j, j ≤ k → (∀ m, m < j → (alT i S0 i).l.getD m 0 = 0) := by
      intro j
      induction j with
      | zero => intro _ m hm; omega
      | succ j ih =>
        intro hj m hm
        have f0 := ih (by omega)
        rcases Nat.lt_or_ge m j with c | c
        · exact f0 m c
        · obtain rfl : m = j := by omega
          -- a row that is none takes nothing from what is lacking
          have g : ∀ x, (rwT i (alT i S0 i) x).l = (alT i S0 i).l ∧ (rwT i (alT i S0 i) x).h.getD i 0 = 0 := by
            intro x
            induction x with
            | zero => exact ⟨rfl, by show (alT i S0 i).h.getD i 0 = 0; rw [List.getD_eq_getElem?_getD, List.getElem?_eq_none (by rw [o2.hl]; exact Nat.le_refl _)]; rfl⟩
            | succ x ihx =>
              have b := un_bd (rw_ok o2 i x) i x
              have z := ihx.2
              have e0 : tkT i x (rwT i (alT i S0 i) x) = rwT i (alT i S0 i) x := tk_none (by omega)
              show (tkT i x (rwT i (alT i S0 i) x)).l = _ ∧ _
              rw [e0]
              exact ⟨ihx.1, by show (tkT i x (rwT i (alT i S0 i) x)).h.getD i 0 = 0; rw [e0]; exact z⟩
          have := hp m (by omega)
          rw [ha, (g k).1] at this
          exact this
    rw [ha, rw_full o2 i k (this k (Nat.le_refl _))]
  · obtain rfl : k = n := by omega
    have t : S = alT k S0 (i + 1) := ha
    have := al_full o (i := i + 1) (fun j hj => by rw [← t]; exact hp j hj) (k - (i + 1))
    rw [show i + 1 + (k - (i + 1)) = k by omega] at this
    rw [t, this]
/-- What stays at its spot goes first. -/
def dgS (S : Shp) : Nat → Shp
  | 0 => S
  | s + 1 => tkT s s (dgS S s)
theorem dg_ok {n : Nat} {S : Shp} (o : ShOk n S) : ∀ s, ShOk n (dgS S s)
  | 0 => o
  | s + 1 => tk_ok (dg_ok o s) s s
theorem dg_at {n : Nat} {S : Shp} (o : ShOk n S) : ∀ s, s ≤ n → ∀ j, (dgS S s).h.getD j 0 = (if j < s then S.h.getD j 0 - min (S.h.getD j 0) (S.l.getD j 0) else S.h.getD j 0) ∧ (dgS S s).l.getD j 0 = (if j < s then S.l.getD j 0 - min (S.h.getD j 0) (S.l.getD j 0) else S.l.getD j 0)
  | 0, _, j => by simp [dgS]
  | s + 1, hs, j => by
    have ih := dg_at o s (by omega)
    have os := dg_ok o s
    have us : unT (dgS S s) s s = min (S.h.getD s 0) (S.l.getD s 0) := by
      unfold unT
      rw [(ih s).1, (ih s).2, if_neg (by omega), if_neg (by omega)]
    show (tkT s s (dgS S s)).h.getD j 0 = _ ∧ (tkT s s (dgS S s)).l.getD j 0 = _
    rw [tk_h os, tk_l os, us, (ih j).1, (ih j).2]
    rcases Nat.lt_trichotomy j s with c | c | c
    · rw [if_neg (by omega), if_pos c, if_pos (by omega), if_neg (by omega), if_pos c, if_pos (by omega)]; exact ⟨rfl, rfl⟩
    · subst c
      rw [if_pos ⟨rfl, by omega⟩, if_neg (by omega), if_pos (by omega), if_pos ⟨rfl, by omega⟩, if_neg (by omega), if_pos (by omega)]; exact ⟨rfl, rfl⟩
    · rw [if_neg (by omega), if_neg (by omega), if_neg (by omega), if_neg (by omega), if_neg (by omega), if_neg (by omega)]; exact ⟨rfl, rfl⟩
theorem dg_f {n : Nat} {S : Shp} (o : ShOk n S) (hz : ∀ i, S.f i = List.replicate n 0) : ∀ s, s ≤ n → ∀ j, (dgS S s).f j = if j < s then (List.replicate n 0).set j (min (S.h.getD j 0) (S.l.getD j 0)) else List.replicate n 0
  | 0, _, j => by simp [dgS, hz]
  | s + 1, hs, j => by
    have ih := dg_f o hz s (by omega)
    have us : unT (dgS S s) s s = min (S.h.getD s 0) (S.l.getD s 0) := by
      unfold unT
      rw [(dg_at o s (by omega) s).1, (dg_at o s (by omega) s).2, if_neg (by omega), if_neg (by omega)]
    show updF (dgS S s).f s _ j = _
    unfold updF
    rw [us]
    by_cases c : j = s
    · subst c
      rw [if_pos rfl, ih j, if_neg (by omega), if_pos (by omega)]
      congr 1
      rw [List.getD_eq_getElem?_getD, List.getElem?_replicate]
      split <;> simp
    · rw [if_neg c, ih j]
      by_cases d : j < s
      · rw [if_pos d, if_pos (by omega)]
      · rw [if_neg d, if_neg (by omega)]
/-- The start: all units are left, all are lacking. -/
def stS (ps qs : List Int) : Shp := ⟨ps, qs, fun _ => List.replicate ps.length 0⟩
theorem st_ok {ps qs : List Int} (h : Ali ps qs) : ShOk ps.length (stS ps qs) where
  hl := rfl
  ll := h.len.symm
  fl := fun i hi => by show (List.replicate ps.length (0 : Int)).length = _; rw [List.length_replicate]
  h0 := fun i => by
    rcases Nat.lt_or_ge i ps.length with c | c
    · exact h.p.bd i c
    · show 0 ≤ ps.getD i 0 ∧ ps.getD i 0 ≤ 40
      rw [List.getD_eq_getElem?_getD, List.getElem?_eq_none c]; decide
  l0 := fun i => by
    rcases Nat.lt_or_ge i qs.length with c | c
    · exact h.q.bd i c
    · show 0 ≤ qs.getD i 0 ∧ qs.getD i 0 ≤ 40
      rw [List.getD_eq_getElem?_getD, List.getElem?_eq_none c]; decide
  f0 := fun i k hi hk => by
    have a := h.p.bd i hi
    show 0 ≤ (List.replicate ps.length (0 : Int)).getD k 0 ∧ (List.replicate ps.length (0 : Int)).getD k 0 + ps.getD i 0 ≤ 40
    rw [show (List.replicate ps.length (0 : Int)).getD k 0 = 0 by rw [List.getD_eq_getElem?_getD, List.getElem?_replicate]; split <;> rfl]
    omega
theorem ext_getD {A B : List Int} (hl : A.length = B.length) (h : ∀ j, j < A.length → A.getD j 0 = B.getD j 0) : A = B := by
  apply List.ext_getElem hl
  intro i h1 h2
  have := h i h1
  rwa [List.getD_eq_getElem?_getD, List.getElem?_eq_getElem h1, List.getD_eq_getElem?_getD, List.getElem?_eq_getElem h2] at this
/-- What is left, and what is lacking, behind what stays at its spot. -/
def lfF (ps qs : List Int) (j : Nat) : Int := ps.getD j 0 - min (ps.getD j 0) (qs.getD j 0)
def lkF (ps qs : List Int) (j : Nat) : Int := qs.getD j 0 - min (ps.getD j 0) (qs.getD j 0)
theorem map_getD {f : Nat → Int} {n j : Nat} (h : j < n) : ((List.range n).map f).getD j 0 = f j := by
  rw [List.getD_eq_getElem?_getD, List.getElem?_map, List.getElem?_range h]; rfl
theorem ke_h {ps qs : List Int} (h : Ali ps qs) : (dgS (stS ps qs) ps.length).h = (List.range ps.length).map (lfF ps qs) := by
  have o := dg_ok (st_ok h) ps.length
  refine ext_getD (by rw [o.hl]; simp) (fun j hj => ?_)
  rw [o.hl] at hj
  rw [(dg_at (st_ok h) ps.length (Nat.le_refl _) j).1, if_pos hj, map_getD hj]; rfl
theorem ke_l {ps qs : List Int} (h : Ali ps qs) : (dgS (stS ps qs) ps.length).l = (List.range ps.length).map (lkF ps qs) := by
  have o := dg_ok (st_ok h) ps.length
  refine ext_getD (by rw [o.ll]; simp) (fun j hj => ?_)
  rw [o.ll] at hj
  rw [(dg_at (st_ok h) ps.length (Nat.le_refl _) j).2, if_pos hj, map_getD hj]; rfl
/-- The two plans. -/
def soT (ps qs : List Int) : Nat → List Int := (alT ps.length (stS ps qs) ps.length).f
def keT (ps qs : List Int) : Nat → List Int := (alT ps.length (dgS (stS ps qs) ps.length) ps.length).f
end Go.Proofs.Ytligidmkhbcpmab
