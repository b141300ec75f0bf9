/- The sums of the rows and of the columns of a table, place by place. No program is spoken of here. -/
import Derived.Test.YtligidmkhbcpmabShpP
namespace Go.Proofs.Ytligidmkhbcpmab
set_option linter.unusedVariables false
theorem rowB_flip (zs : List Int) (n : Nat) (m : Int) : (fromB 0 m zs && decide ((zs.length : Int) = (n : Int))) = rowB zs n m := by
  unfold rowB
  rw [Bool.and_comm]
  congr 1
  rw [Bool.eq_iff_iff, decide_eq_true_iff, decide_eq_true_iff]
  omega
theorem anyR_hit {p : Nat → Bool} {R k : Nat} (hk : k < R) (h : p k = true) : (List.range R).any p = true := List.any_eq_true.2 ⟨k, List.mem_range.2 hk, h⟩
theorem anyR_miss {p : Nat → Bool} {R : Nat} (h : ∀ j, j < R → p j = false) : (List.range R).any p = false := by
  rw [List.any_eq_false]
  intro j hj
  rw [h j (List.mem_range.1 hj)]
  decide
theorem sq_any {R : Nat} {f : Nat → List Int} {n : Nat} {m : Int} (h : R = n) : sqB R f n m = !((List.range R).any fun i => !rowB (f i) n m) := by
  cases ha : (List.range R).any fun i => !rowB (f i) n m
  · rw [sqB_iff.2 (sqr_rows.2 ⟨h, fun i hi => ?_⟩)]; rfl
    cases hb : rowB (f i) n m
    · rw [anyR_hit hi (p := fun i => !rowB (f i) n m) (by show (!rowB (f i) n m) = true; rw [hb]; rfl)] at ha; cases ha
    · rfl
  · rw [sqB_no]; rfl
    intro s
    rw [anyR_miss (p := fun i => !rowB (f i) n m) (fun j hj => by show (!rowB (f j) n m) = false; rw [(sqr_rows.1 s).2 j hj]; rfl)] at ha
    cases ha
/-- The sums of the rows: i rows are done, and k places of the next one. -/
def erF (f : Nat → List Int) (n i k : Nat) : List Int := (List.range n).map fun j => if j < i then smT (f j) n else if j = i then smT (f i) k else 0
/-- The sums of the columns likewise. -/
def ecF (f : Nat → List Int) (n i k : Nat) : List Int := (List.range n).map fun c => if c < k then colT f c (i + 1) else colT f c i
theorem er_len (f : Nat → List Int) (n i k : Nat) : (erF f n i k).length = n := by simp [erF]
theorem ec_len (f : Nat → List Int) (n i k : Nat) : (ecF f n i k).length = n := by simp [ecF]
theorem er_at {f : Nat → List Int} {n i k j : Nat} (h : j < n) : (erF f n i k).getD j 0 = if j < i then smT (f j) n else if j = i then smT (f i) k else 0 := by
  unfold erF; rw [map_getD h]
theorem ec_at {f : Nat → List Int} {n i k c : Nat} (h : c < n) : (ecF f n i k).getD c 0 = if c < k then colT f c (i + 1) else colT f c i := by
  unfold ecF; rw [map_getD h]
theorem getD_rep (n j : Nat) : (List.replicate n (0 : Int)).getD j 0 = 0 := by
  rw [List.getD_eq_getElem?_getD, List.getElem?_replicate]; split <;> rfl
theorem er_zero (f : Nat → List Int) (n : Nat) : erF f n 0 0 = List.replicate n 0 := by
  refine ext_getD (by simp [er_len]) (fun j hj => ?_)
  rw [er_len] at hj
  rw [er_at hj, if_neg (by omega), getD_rep]
  split <;> rfl
theorem ec_zero (f : Nat → List Int) (n : Nat) : ecF f n 0 0 = List.replicate n 0 := by
  refine ext_getD (by simp [ec_len]) (fun j hj => ?_)
  rw [ec_len] at hj
  rw [ec_at hj, if_neg (by omega), getD_rep]
  rfl
theorem er_set {f : Nat → List Int} {n i k : Nat} (h : i < n) : (erF f n i k).set i (smT (f i) k + (f i).getD k 0) = erF f n i (k + 1) := by
  refine ext_getD (by simp [er_len]) (fun j hj => ?_)
  rw [List.length_set, er_len] at hj
  rw [getD_setY, er_len, er_at hj, er_at hj]
  by_cases e : i = j
  · subst e; rw [if_pos ⟨rfl, hj⟩, if_neg (by omega), if_pos rfl]; rfl
  · rw [if_neg (fun c => e c.1)]
    by_cases c : j < i
    · rw [if_pos c, if_pos c]
    · rw [if_neg c, if_neg c, if_neg (fun d => e d.symm), if_neg (fun d => e d.symm)]
theorem er_next (f : Nat → List Int) (n i : Nat) : erF f n i n = erF f n (i + 1) 0 := by
  refine ext_getD (by simp [er_len]) (fun j hj => ?_)
  rw [er_len] at hj
  rw [er_at hj, er_at hj]
  by_cases c : j < i
  · rw [if_pos c, if_pos (by omega)]
  · by_cases e : j = i
    · subst e; rw [if_neg c, if_pos rfl, if_pos (by omega)]
    · rw [if_neg c, if_neg e, if_neg (by omega)]
      split <;> rfl
theorem ec_set {f : Nat → List Int} {n i k : Nat} (h : k < n) : (ecF f n i k).set k (colT f k i + (f i).getD k 0) = ecF f n i (k + 1) := by
  refine ext_getD (by simp [ec_len]) (fun j hj => ?_)
  rw [List.length_set, ec_len] at hj
  rw [getD_setY, ec_len, ec_at hj, ec_at hj]
  by_cases e : k = j
  · subst e; rw [if_pos ⟨rfl, hj⟩, if_pos (by omega)]; rfl
  · rw [if_neg (fun c => e c.1)]
    by_cases c : j < k
    · rw [if_pos c, if_pos (by omega)]
    · rw [if_neg c, if_neg (by omega)]
theorem ec_next (f : Nat → List Int) (n i : Nat) : ecF f n i n = ecF f n (i + 1) 0 := by
  refine ext_getD (by simp [ec_len]) (fun j hj => ?_)
  rw [ec_len] at hj
  rw [ec_at hj, ec_at hj, if_pos hj, if_neg (by omega)]
/-- A table is a plan if its sums are the units. -/
theorem pln_edges {ps qs : List Int} {R : Nat} {f : Nat → List Int} (hl : ps.length = qs.length) (s : Sqr R f ps.length 40) : plnB ps qs R f = (decide (erF f ps.length ps.length 0 = ps) && decide (ecF f ps.length ps.length 0 = qs)) := by
  have hR := s.rows
  rw [Bool.eq_iff_iff, plnB_iff, Bool.and_eq_true, decide_eq_true_iff, decide_eq_true_iff]
  constructor
  · intro p
    constructor
    · refine ext_getD (by rw [er_len]) (fun j hj => ?_)
      rw [er_len] at hj
      rw [er_at hj, if_pos hj]; exact p.row j (by omega)
    · refine ext_getD (by rw [ec_len]; exact hl) (fun j hj => ?_)
      rw [ec_len] at hj
      rw [ec_at hj, if_neg (by omega), ← p.col j hj, hR]
  · rintro ⟨a, b⟩
    refine ⟨s, fun i hi => ?_, fun k hk => ?_⟩
    · have := er_at (f := f) (n := ps.length) (i := ps.length) (k := 0) (j := i) (by omega)
      rw [a, if_pos (by omega)] at this; exact this.symm
    · have := ec_at (f := f) (n := ps.length) (i := ps.length) (k := 0) (c := k) hk
      rw [b, if_neg (by omega)] at this; rw [this, hR]
/-- What functions of plans answer. -/
noncomputable def isplB (ps qs : List Int) (R : Nat) (f : Nat → List Int) : Bool := aliB ps qs && plnB ps qs R f
end Go.Proofs.Ytligidmkhbcpmab
