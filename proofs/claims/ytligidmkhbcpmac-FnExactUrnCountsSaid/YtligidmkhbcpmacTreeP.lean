/- Plain mathematics of trees: which lists of parents and weights are one, its ends, its children. No program is spoken of here. -/
import Derived.WalkKit
namespace Go.Proofs.Ytligidmkhbcpmac
set_option linter.unusedVariables false
/-- What holds of the parent of node y. -/
def parOk (ps : List Int) (y : Nat) : Bool := if y = 0 then decide (ps.getD 0 0 = -1) else decide (0 ≤ ps.getD y 0 ∧ ps.getD y 0 < (y : Int))
/-- Node x has no children. -/
def leafB (ps : List Int) (x : Nat) : Bool := !(ps.any fun p => p == (x : Int))
/-- What holds of the weight of node x. -/
def wtOk (ps ws : List Int) (x : Nat) : Bool := if leafB ps x = true then decide (1 ≤ ws.getD x 0 ∧ ws.getD x 0 ≤ 20) else decide (ws.getD x 0 = 0)
/-- The lists are a tree. -/
def goodT (ps ws : List Int) : Bool := decide (1 ≤ ps.length ∧ ps.length ≤ 24 ∧ ws.length = ps.length) && ((List.range ps.length).all (parOk ps) && (List.range ps.length).all (wtOk ps ws))
structure Good (ps ws : List Int) : Prop where
  n1 : 1 ≤ ps.length
  n24 : ps.length ≤ 24
  nw : ws.length = ps.length
  root : ps.getD 0 0 = -1
  par : ∀ y, 0 < y → y < ps.length → 0 ≤ ps.getD y 0 ∧ ps.getD y 0 < (y : Int)
  leaf : ∀ x, x < ps.length → leafB ps x = true → 1 ≤ ws.getD x 0 ∧ ws.getD x 0 ≤ 20
  inner : ∀ x, x < ps.length → leafB ps x = false → ws.getD x 0 = 0
theorem parOk_zero (ps : List Int) : parOk ps 0 = decide (ps.getD 0 0 = -1) := rfl
theorem parOk_pos (ps : List Int) {y : Nat} (h : 0 < y) : parOk ps y = decide (0 ≤ ps.getD y 0 ∧ ps.getD y 0 < (y : Int)) := by
  unfold parOk; rw [if_neg (by omega)]
theorem goodT_iff (ps ws : List Int) : goodT ps ws = true ↔ Good ps ws := by
  unfold goodT
  simp only [Bool.and_eq_true, decide_eq_true_eq, List.all_eq_true, List.mem_range]
  constructor
  · rintro ⟨⟨h1, h2, h3⟩, hp, hw⟩
    refine ⟨h1, h2, h3, ?_, fun y h0 hy => ?_, fun x hx hl => ?_, fun x hx hl => ?_⟩
    · simpa [parOk_zero] using hp 0 (by omega)
    · simpa [parOk_pos ps h0] using hp y hy
    · have := hw x hx; unfold wtOk at this; rw [if_pos hl] at this; simpa using this
    · have := hw x hx; unfold wtOk at this; rw [if_neg (by rw [hl]; decide)] at this; simpa using this
  · intro g
    refine ⟨⟨g.n1, g.n24, g.nw⟩, fun y hy => ?_, fun x hx => ?_⟩
    · by_cases h0 : y = 0
      · subst h0; simpa [parOk_zero] using g.root
      · rw [parOk_pos ps (by omega)]; simpa using g.par y (by omega) hy
    · unfold wtOk
      cases hl : leafB ps x
      · simpa using g.inner x hx hl
      · simpa using g.leaf x hx hl
theorem Good.of {ps ws : List Int} (h : goodT ps ws = true) : Good ps ws := (goodT_iff ps ws).1 h
theorem leafB_iff (ps : List Int) (x : Nat) : leafB ps x = true ↔ ∀ y, y < ps.length → ps.getD y 0 ≠ (x : Int) := by
  unfold leafB
  simp only [Bool.not_eq_true', List.any_eq_false, beq_iff_eq]
  constructor
  · intro h y hy
    rw [List.getD_eq_getElem?_getD, List.getElem?_eq_getElem hy]
    exact h _ (List.getElem_mem hy)
  · intro h z hz
    obtain ⟨y, hy, rfl⟩ := List.mem_iff_getElem.1 hz
    have := h y hy
    rw [List.getD_eq_getElem?_getD, List.getElem?_eq_getElem hy] at this
    exact this
theorem leafB_false (ps : List Int) (x : Nat) : leafB ps x = false ↔ ∃ y, y < ps.length ∧ ps.getD y 0 = (x : Int) := by
  rw [← Bool.not_eq_true, leafB_iff]
  simp
/-- The weight of a node tells whether it is an end. -/
theorem Good.end_iff {ps ws : List Int} (g : Good ps ws) {x : Nat} (hx : x < ps.length) : (0 < ws.getD x 0) ↔ leafB ps x = true := by
  cases hl : leafB ps x
  · have := g.inner x hx hl; rw [this]; simp
  · have := g.leaf x hx hl; exact ⟨fun _ => rfl, fun _ => by omega⟩
theorem Good.w_bd {ps ws : List Int} (g : Good ps ws) {x : Nat} (hx : x < ps.length) : 0 ≤ ws.getD x 0 ∧ ws.getD x 0 ≤ 20 := by
  cases hl : leafB ps x
  · have := g.inner x hx hl; omega
  · have := g.leaf x hx hl; omega
theorem Good.p_bd {ps ws : List Int} (g : Good ps ws) {x : Nat} (hx : x < ps.length) : -1 ≤ ps.getD x 0 ∧ ps.getD x 0 < (x : Int) ∧ (0 < x → 0 ≤ ps.getD x 0) := by
  by_cases h0 : x = 0
  · subst h0; have := g.root; omega
  · have := g.par x (by omega) hx; omega
/-- The list is no tree, seen at some place. -/
theorem goodT_false_len {ps ws : List Int} (h : ¬ (1 ≤ ps.length ∧ ps.length ≤ 24 ∧ ws.length = ps.length)) : goodT ps ws = false := by
  unfold goodT; rw [decide_eq_false h]; rfl
theorem goodT_false_par {ps ws : List Int} {y : Nat} (hy : y < ps.length) (h : parOk ps y = false) : goodT ps ws = false := by
  rw [← Bool.not_eq_true]; intro hg
  unfold goodT at hg
  simp only [Bool.and_eq_true, List.all_eq_true, List.mem_range] at hg
  rw [hg.2.1 y hy] at h; cases h
theorem goodT_false_wt {ps ws : List Int} {y : Nat} (hy : y < ps.length) (h : wtOk ps ws y = false) : goodT ps ws = false := by
  rw [← Bool.not_eq_true]; intro hg
  unfold goodT at hg
  simp only [Bool.and_eq_true, List.all_eq_true, List.mem_range] at hg
  rw [hg.2.2 y hy] at h; cases h
theorem goodT_true {ps ws : List Int} (h : 1 ≤ ps.length ∧ ps.length ≤ 24 ∧ ws.length = ps.length) (hp : ∀ y, y < ps.length → parOk ps y = true) (hw : ∀ x, x < ps.length → wtOk ps ws x = true) : goodT ps ws = true := by
  unfold goodT
  simp only [Bool.and_eq_true, decide_eq_true_eq, List.all_eq_true, List.mem_range]
  exact ⟨h, hp, hw⟩
/-- The ends in ascending order. -/
def endsT (ps : List Int) : List Int := ((List.range ps.length).filter (leafB ps)).map (fun x : Nat => (x : Int))
/-- The children of a node in ascending order. -/
def kidsT (ps : List Int) (x : Int) : List Int := ((List.range ps.length).filter (fun y => ps.getD y 0 == x)).map (fun y : Nat => (y : Int))
/-- The nodes below a number that a test takes, in ascending order. -/
def nodesW (p : Nat → Bool) (n : Nat) : List Int := ((List.range n).filter p).map (fun x : Nat => (x : Int))
theorem nodesW_zero (p : Nat → Bool) : nodesW p 0 = [] := rfl
theorem nodesW_yes {p : Nat → Bool} {n : Nat} (h : p n = true) : nodesW p (n + 1) = nodesW p n ++ [(n : Int)] := by
  unfold nodesW; rw [List.range_succ, List.filter_append, List.map_append]; simp [h]
theorem nodesW_no {p : Nat → Bool} {n : Nat} (h : p n = false) : nodesW p (n + 1) = nodesW p n := by
  unfold nodesW; rw [List.range_succ, List.filter_append, List.map_append]; simp [h]
theorem nodesW_len (p : Nat → Bool) (n : Nat) : (nodesW p n).length ≤ n := by
  unfold nodesW; rw [List.length_map]; exact Nat.le_trans (List.length_filter_le _ _) (by simp)
theorem nodesW_mem {p : Nat → Bool} {n : Nat} {z : Int} (h : z ∈ nodesW p n) : ∃ x : Nat, z = (x : Int) ∧ x < n ∧ p x = true := by
  unfold nodesW at h
  obtain ⟨x, hx, rfl⟩ := List.mem_map.1 h
  rw [List.mem_filter, List.mem_range] at hx
  exact ⟨x, rfl, hx.1, hx.2⟩
theorem nodesW_congr {p q : Nat → Bool} {n : Nat} (h : ∀ x, x < n → p x = q x) : nodesW p n = nodesW q n := by
  unfold nodesW
  congr 1
  refine List.filter_congr fun x hx => h x (List.mem_range.1 hx)
theorem endsT_eq (ps : List Int) : endsT ps = nodesW (leafB ps) ps.length := rfl
theorem kidsT_eq (ps : List Int) (x : Int) : kidsT ps x = nodesW (fun y => ps.getD y 0 == x) ps.length := rfl
/-- No children below the node itself. -/
theorem Good.kid_gt {ps ws : List Int} (g : Good ps ws) {x y : Nat} (hy : y < ps.length) (h : ps.getD y 0 = (x : Int)) : x < y := by
  have := g.p_bd hy; omega
theorem kidsT_nil {ps : List Int} {x : Nat} : kidsT ps (x : Int) = [] ↔ leafB ps x = true := by
  rw [leafB_iff]
  unfold kidsT
  rw [List.map_eq_nil_iff, List.filter_eq_nil_iff]
  simp only [List.mem_range, beq_iff_eq]
/-- Node x is the parent of a node from 1 to k - 1. -/
def marked (ps : List Int) (k x : Nat) : Bool := (List.range k).any fun y => decide (0 < y) && ps.getD y 0 == (x : Int)
def markL (ps : List Int) (k : Nat) : List Value := (List.range 24).map fun x => Value.bool (marked ps k x)
theorem marked_one (ps : List Int) (x : Nat) : marked ps 1 x = false := by simp [marked]
theorem markL_one (ps : List Int) : markL ps 1 = List.replicate 24 (Value.bool false) := by
  simp only [markL, marked_one]; rfl
theorem marked_succ (ps : List Int) {k : Nat} (hk : 0 < k) (x : Nat) : marked ps (k + 1) x = (marked ps k x || ps.getD k 0 == (x : Int)) := by
  unfold marked; rw [List.range_succ, List.any_append]; simp [hk]
theorem markL_set (ps : List Int) {k j : Nat} (hk : 0 < k) (hj : ps.getD k 0 = (j : Int)) : (markL ps k).set j (Value.bool true) = markL ps (k + 1) := by
  unfold markL
  apply List.ext_getElem
  · simp
  · intro i h1 h2
    rw [List.getElem_set]
    simp only [List.getElem_map, List.getElem_range]
    rw [marked_succ ps hk, hj]
    by_cases e : j = i
    · subst e; simp
    · rw [if_neg e]
      have : ((j : Int) == (i : Int)) = false := by simp; omega
      rw [this]; simp
theorem markL_len (ps : List Int) (k : Nat) : (markL ps k).length = 24 := by simp [markL]
theorem markL_at (ps : List Int) (k : Nat) {x : Nat} (hx : x < 24) : (markL ps k)[x]? = some (Value.bool (marked ps k x)) := by
  unfold markL
  rw [List.getElem?_map, List.getElem?_range hx]; rfl
theorem marked_leaf {ps : List Int} (h0 : ps.getD 0 0 = -1) (x : Nat) : marked ps ps.length x = !leafB ps x := by
  rw [Bool.eq_iff_iff, Bool.not_eq_true', leafB_false]
  unfold marked
  simp only [List.any_eq_true, List.mem_range, Bool.and_eq_true, decide_eq_true_eq, beq_iff_eq]
  constructor
  · rintro ⟨y, hy, _, h⟩; exact ⟨y, hy, h⟩
  · rintro ⟨y, hy, h⟩
    refine ⟨y, hy, ?_, h⟩
    rcases Nat.eq_zero_or_pos y with e | e
    · subst e; omega
    · exact e
theorem wtOk_leaf {ps ws : List Int} {x : Nat} (hl : leafB ps x = true) : wtOk ps ws x = decide (1 ≤ ws.getD x 0 ∧ ws.getD x 0 ≤ 20) := by unfold wtOk; rw [if_pos hl]
theorem wtOk_inner {ps ws : List Int} {x : Nat} (hl : leafB ps x = false) : wtOk ps ws x = decide (ws.getD x 0 = 0) := by unfold wtOk; rw [if_neg (by rw [hl]; decide)]
end Go.Proofs.Ytligidmkhbcpmac
