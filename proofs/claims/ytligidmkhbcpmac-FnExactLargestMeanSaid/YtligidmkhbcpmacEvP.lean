/- Events over a tree, told by lists of ints. No program is spoken of here. -/
import Derived.Test.YtligidmkhbcpmacSumP
namespace Go.Proofs.Ytligidmkhbcpmac
set_option linter.unusedVariables false
theorem sumTo_le_abs (L : List Int) : ∀ k : Nat, sumTo L k ≤ absTo L k := by
  intro k
  induction k with
  | zero => simp [sumTo, absTo]
  | succ k ih => rw [sumTo, absTo]; omega
/-- The Weights of the ends at which p holds. -/
def maskL (ps ws : List Int) (p : Nat → Bool) : List Int := (List.range ps.length).map fun x => if leafB ps x = true ∧ p x = true then ws.getD x 0 else 0
theorem maskL_len (ps ws : List Int) (p : Nat → Bool) : (maskL ps ws p).length = ps.length := by simp [maskL]
theorem maskL_at {ps ws : List Int} {p : Nat → Bool} {x : Nat} (hx : x < ps.length) : (maskL ps ws p).getD x 0 = if leafB ps x = true ∧ p x = true then ws.getD x 0 else 0 := by
  rw [List.getD_eq_getElem?_getD, List.getElem?_eq_getElem (by rw [maskL_len]; exact hx)]
  simp [maskL]
theorem maskL_bd {ps ws : List Int} (g : Good ps ws) {p : Nat → Bool} {x : Nat} (hx : x < ps.length) : 0 ≤ (maskL ps ws p).getD x 0 ∧ (maskL ps ws p).getD x 0 ≤ 20 := by
  rw [maskL_at hx]
  have := g.w_bd hx
  split <;> omega
theorem maskL_abs {ps ws : List Int} (g : Good ps ws) (p : Nat → Bool) : absTo (maskL ps ws p) ps.length ≤ 480 := by
  have h := absTo_le (L := maskL ps ws p) (B := 20) ps.length (fun y hy => by have := maskL_bd g (p := p) hy; omega)
  have := g.n24
  omega
/-- What the ends at which p holds weigh together. -/
def heavyT (ps ws : List Int) (p : Nat → Bool) : Int := sumTo (maskL ps ws p) ps.length
theorem heavy_bd {ps ws : List Int} (g : Good ps ws) (p : Nat → Bool) : 0 ≤ heavyT ps ws p ∧ heavyT ps ws p ≤ 480 := by
  have h1 := sumTo_nonneg (L := maskL ps ws p) ps.length (fun y hy => (maskL_bd g hy).1)
  have h2 := sumTo_le_abs (maskL ps ws p) ps.length
  have h3 := maskL_abs g p
  unfold heavyT
  omega
theorem mask_all {ps ws : List Int} (g : Good ps ws) : maskL ps ws (fun _ => true) = ws := by
  refine list_ext_getD (by rw [maskL_len, g.nw]) (fun y hy => ?_)
  rw [maskL_len] at hy
  rw [maskL_at hy]
  split
  · rfl
  · rename_i h
    have h1 := g.w_bd hy
    have h2 := g.end_iff hy
    have : ¬ leafB ps y = true := fun e => h ⟨e, rfl⟩
    have : ¬ 0 < ws.getD y 0 := fun e => this (h2.1 e)
    omega
theorem heavy_all {ps ws : List Int} (g : Good ps ws) : heavyT ps ws (fun _ => true) = (sumsT ps ws).getD 0 0 := by
  unfold heavyT sumsT
  rw [mask_all g, upL_root (ParOk.of g) g.nw g.n1]
theorem heavy_up {ps ws : List Int} (g : Good ps ws) (p : Nat → Bool) : (upL ps (maskL ps ws p) (ps.length - 1)).getD 0 0 = heavyT ps ws p := upL_root (ParOk.of g) (maskL_len _ _ _) g.n1
theorem heavy_congr {ps ws : List Int} {p q : Nat → Bool} (h : ∀ x, x < ps.length → p x = q x) : heavyT ps ws p = heavyT ps ws q := by
  unfold heavyT
  congr 1
  unfold maskL
  exact List.map_congr_left fun x hx => by rw [h x (List.mem_range.1 hx)]
/-- One number of an event. -/
def evAt (ps ws evs : List Int) (i : Nat) : Bool := decide (0 ≤ evs.getD i 0 ∧ evs.getD i 0 < (ps.length : Int)) && (decide (0 < ws.getD (evs.getD i 0).toNat 0) && (decide (i = 0) || decide (evs.getD (i - 1) 0 < evs.getD i 0)))
/-- An event of a valid tree. -/
def evB (ps ws evs : List Int) : Bool := goodT ps ws && (List.range evs.length).all (evAt ps ws evs)
structure Ev (ps ws evs : List Int) : Prop where
  good : Good ps ws
  lo : ∀ i, i < evs.length → 0 ≤ evs.getD i 0
  hi : ∀ i, i < evs.length → evs.getD i 0 < (ps.length : Int)
  pos : ∀ i, i < evs.length → 0 < ws.getD (evs.getD i 0).toNat 0
  up : ∀ i, i < evs.length → 0 < i → evs.getD (i - 1) 0 < evs.getD i 0
theorem evAt_iff {ps ws evs : List Int} {i : Nat} : evAt ps ws evs i = true ↔ (0 ≤ evs.getD i 0 ∧ evs.getD i 0 < (ps.length : Int)) ∧ 0 < ws.getD (evs.getD i 0).toNat 0 ∧ (0 < i → evs.getD (i - 1) 0 < evs.getD i 0) := by
  unfold evAt
  rw [Bool.and_eq_true, Bool.and_eq_true, Bool.or_eq_true, decide_eq_true_iff, decide_eq_true_iff, decide_eq_true_iff, decide_eq_true_iff]
  constructor
  · rintro ⟨a, b, c⟩; exact ⟨a, b, fun h => by rcases c with c | c; · omega
                                               · exact c⟩
  · rintro ⟨a, b, c⟩; exact ⟨a, b, by rcases Nat.eq_zero_or_pos i with h | h; · exact .inl h
                                      · exact .inr (c h)⟩
theorem evB_iff {ps ws evs : List Int} : evB ps ws evs = true ↔ Ev ps ws evs := by
  unfold evB
  rw [Bool.and_eq_true, List.all_eq_true]
  constructor
  · rintro ⟨a, b⟩
    have h := fun i (hi : i < evs.length) => evAt_iff.1 (b i (List.mem_range.2 hi))
    exact ⟨Good.of a, fun i hi => (h i hi).1.1, fun i hi => (h i hi).1.2, fun i hi => (h i hi).2.1, fun i hi => (h i hi).2.2⟩
  · intro e
    exact ⟨(goodT_iff _ _).2 e.good, fun i hi => evAt_iff.2 ⟨⟨e.lo i (List.mem_range.1 hi), e.hi i (List.mem_range.1 hi)⟩, e.pos i (List.mem_range.1 hi), e.up i (List.mem_range.1 hi)⟩⟩
theorem evB_false {ps ws evs : List Int} {i : Nat} (hi : i < evs.length) (h : evAt ps ws evs i = false) : evB ps ws evs = false := by
  cases hb : evB ps ws evs
  · rfl
  · unfold evB at hb
    rw [Bool.and_eq_true, List.all_eq_true] at hb
    rw [hb.2 i (List.mem_range.2 hi)] at h
    cases h
/-- A number is in a list. -/
def inL (l : List Int) (z : Int) : Bool := decide (z ∈ l)
theorem inL_take {l : List Int} {k : Nat} (h : k < l.length) (z : Int) : inL (l.take (k + 1)) z = if z = l.getD k 0 then true else inL (l.take k) z := by
  unfold inL
  rw [List.take_succ_eq_append_getElem h, List.getD_eq_getElem?_getD, List.getElem?_eq_getElem h]
  simp only [Option.getD_some, List.mem_append, List.mem_singleton]
  by_cases e : z = l[k]
  · simp [e]
  · simp [e]
theorem nodesW_snoc (l : List Int) : ∀ m : Nat, l.Pairwise (· < ·) → (∀ z ∈ l, 0 ≤ z ∧ z < (m : Int)) → l = nodesW (fun x => inL l (x : Int)) m := by
  intro m
  induction m generalizing l with
  | zero =>
    intro _ h
    cases l with
    | nil => rfl
    | cons a l => have := h a (by simp); omega
  | succ m ih =>
    intro hp h
    by_cases hm : (m : Int) ∈ l
    · have hne : l ≠ [] := by intro e; rw [e] at hm; cases hm
      obtain ⟨l', a, rfl⟩ : ∃ l' a, l = l' ++ [a] := ⟨l.dropLast, l.getLast hne, (List.dropLast_concat_getLast hne).symm⟩
      rw [List.pairwise_append] at hp
      obtain ⟨hp1, _, hp2⟩ := hp
      have ha : a = (m : Int) := by
        have h1 := h a (by simp)
        rcases List.mem_append.1 hm with h2 | h2
        · have := hp2 _ h2 a (by simp); omega
        · simp at h2; exact h2.symm
      subst ha
      have hl' : ∀ z ∈ l', 0 ≤ z ∧ z < (m : Int) := fun z hz => ⟨(h z (by simp [hz])).1, hp2 z hz _ (by simp)⟩
      rw [nodesW_yes (by simp [inL])]
      congr 1
      rw [nodesW_congr (q := fun x => inL l' (x : Int)) (fun x hx => by
        unfold inL
        simp only [List.mem_append, List.mem_singleton]
        have : ¬ (x : Int) = (m : Int) := by omega
        simp [this])]
      exact ih l' hp1 hl'
    · rw [nodesW_no (by simp [inL, hm])]
      exact ih l hp (fun z hz => ⟨(h z hz).1, by have := (h z hz).2; have : z ≠ (m : Int) := fun e => hm (e ▸ hz); omega⟩)
theorem pairwise_up {l : List Int} (h : ∀ i, i < l.length → 0 < i → l.getD (i - 1) 0 < l.getD i 0) : l.Pairwise (· < ·) := by
  rw [List.pairwise_iff_getElem]
  have key : ∀ j i, i < j → j < l.length → l.getD i 0 < l.getD j 0 := by
    intro j
    induction j with
    | zero => intro i hi; omega
    | succ j ih =>
      intro i hi hj
      have h1 := h (j + 1) hj (by omega)
      rw [Nat.add_sub_cancel] at h1
      rcases Nat.lt_or_ge i j with h2 | h2
      · have := ih i h2 (by omega); omega
      · rw [show i = j by omega]; exact h1
  intro i j hi hj hij
  have := key j i hij hj
  rwa [List.getD_eq_getElem?_getD, List.getD_eq_getElem?_getD, List.getElem?_eq_getElem hi, List.getElem?_eq_getElem hj] at this
theorem mem_getD {l : List Int} {z : Int} (h : z ∈ l) : ∃ i, i < l.length ∧ l.getD i 0 = z := by
  obtain ⟨i, hi, e⟩ := List.getElem_of_mem h
  exact ⟨i, hi, by rw [List.getD_eq_getElem?_getD, List.getElem?_eq_getElem hi]; exact e⟩
theorem Ev.nodes {ps ws evs : List Int} (e : Ev ps ws evs) : evs = nodesW (fun x => inL evs (x : Int)) ps.length :=
  nodesW_snoc evs ps.length (pairwise_up e.up) (fun z hz => by obtain ⟨i, hi, rfl⟩ := mem_getD hz; exact ⟨e.lo i hi, e.hi i hi⟩)
theorem Ev.leaf {ps ws evs : List Int} (e : Ev ps ws evs) {x : Nat} (hx : x < ps.length) (h : inL evs (x : Int) = true) : leafB ps x = true := by
  obtain ⟨i, hi, he⟩ := mem_getD (of_decide_eq_true h)
  have := e.pos i hi
  rw [he] at this
  exact (e.good.end_iff hx).1 (by simpa using this)
theorem Ev.len {ps ws evs : List Int} (e : Ev ps ws evs) : evs.length ≤ 24 := by
  rw [e.nodes]
  exact Nat.le_trans (nodesW_len _ _) e.good.n24
/-- What the nodes of a list weigh together. -/
def pickS (ws l : List Int) : Int := (l.map fun z => ws.getD z.toNat 0).sum
theorem pickS_snoc (ws l : List Int) (z : Int) : pickS ws (l ++ [z]) = pickS ws l + ws.getD z.toNat 0 := by simp [pickS]
theorem pickS_take (ws : List Int) {l : List Int} {k : Nat} (h : k < l.length) : pickS ws (l.take (k + 1)) = pickS ws (l.take k) + ws.getD (l.getD k 0).toNat 0 := by
  rw [List.take_succ_eq_append_getElem h, pickS_snoc, show l.getD k 0 = l[k] by rw [List.getD_eq_getElem?_getD, List.getElem?_eq_getElem h]; rfl]
theorem sumTo_congr {L M : List Int} : ∀ k : Nat, (∀ y, y < k → L.getD y 0 = M.getD y 0) → sumTo L k = sumTo M k := by
  intro k
  induction k with
  | zero => intro _; rfl
  | succ k ih => intro h; rw [sumTo, sumTo, ih (fun y hy => h y (by omega)), h k (by omega)]
theorem pickS_nodes {ps ws : List Int} {q : Nat → Bool} (h : ∀ x, x < ps.length → q x = true → leafB ps x = true) : ∀ m, m ≤ ps.length → pickS ws (nodesW q m) = sumTo (maskL ps ws q) m := by
  intro m
  induction m with
  | zero => intro _; rfl
  | succ m ih =>
    intro hm
    rw [sumTo, ← ih (by omega), maskL_at (by omega)]
    cases hq : q m
    · rw [nodesW_no hq]; simp
    · rw [nodesW_yes hq, pickS_snoc, if_pos ⟨h m (by omega) hq, rfl⟩]; simp
theorem Ev.heavy {ps ws evs : List Int} (e : Ev ps ws evs) : pickS ws evs = heavyT ps ws (fun x => inL evs (x : Int)) := by
  have h := pickS_nodes (ps := ps) (ws := ws) (q := fun x => inL evs (x : Int)) (fun x hx hq => e.leaf hx hq) ps.length (Nat.le_refl _)
  rw [← e.nodes] at h
  exact h
theorem filter_nodesW (p : Nat → Bool) (q : Int → Bool) : ∀ m, (nodesW p m).filter q = nodesW (fun x => p x && q (x : Int)) m := by
  intro m
  induction m with
  | zero => rfl
  | succ m ih =>
    cases hp : p m
    · rw [nodesW_no hp, nodesW_no (by simp [hp]), ih]
    · cases hq : q (m : Int)
      · rw [nodesW_yes hp, List.filter_append, nodesW_no (by simp [hq]), ih]; simp [hq]
      · rw [nodesW_yes hp, List.filter_append, nodesW_yes (by simp [hp, hq]), ih]; simp [hq]
/-- The ends of both of two events. -/
def bothL (a b : List Int) : List Int := a.filter (inL b)
theorem both_heavy {ps ws a b : List Int} (ea : Ev ps ws a) : pickS ws (bothL a b) = heavyT ps ws (fun x => inL a (x : Int) && inL b (x : Int)) := by
  unfold bothL
  rw [show a.filter (inL b) = nodesW (fun x => inL a (x : Int) && inL b (x : Int)) ps.length by
    have h := filter_nodesW (fun x => inL a (x : Int)) (inL b) ps.length
    rw [← ea.nodes] at h
    exact h]
  exact pickS_nodes (fun x hx hq => ea.leaf hx (by simp only [Bool.and_eq_true] at hq; exact hq.1)) ps.length (Nat.le_refl _)
theorem filter_take {l : List Int} {q : Int → Bool} {k : Nat} (h : k < l.length) : (l.take (k + 1)).filter q = if q (l.getD k 0) = true then (l.take k).filter q ++ [l.getD k 0] else (l.take k).filter q := by
  rw [List.take_succ_eq_append_getElem h, List.filter_append, List.getD_eq_getElem?_getD, List.getElem?_eq_getElem h]
  simp only [Option.getD_some]
  cases hq : q l[k] <;> simp [hq]
/-- The other ends. -/
def othersT (ps evs : List Int) : List Int := nodesW (fun x => leafB ps x && !inL evs (x : Int)) ps.length
theorem others_filter (ps evs : List Int) : (endsT ps).filter (fun z => !inL evs z) = othersT ps evs := filter_nodesW (leafB ps) (fun z => !inL evs z) ps.length
/-- 1 at the ends of an event, 0 at others. -/
def indL (evs l : List Int) : List Int := l.map fun z => if inL evs z = true then 1 else 0
theorem indL_len (evs l : List Int) : (indL evs l).length = l.length := by simp [indL]
theorem indL_take {evs l : List Int} {k : Nat} (h : k < l.length) : indL evs (l.take (k + 1)) = indL evs (l.take k) ++ [if inL evs (l.getD k 0) = true then 1 else 0] := by
  unfold indL
  rw [List.take_succ_eq_append_getElem h, List.map_append, List.getD_eq_getElem?_getD, List.getElem?_eq_getElem h]; rfl
end Go.Proofs.Ytligidmkhbcpmac
