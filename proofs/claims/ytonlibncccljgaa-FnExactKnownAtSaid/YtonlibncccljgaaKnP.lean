/- When pays are known, told by lists. -/
import Derived.Test.YtonlibncccljgaaPcP
namespace Go.Proofs.Ytonlibncccljgaa
open Go.RowKit
set_option linter.unusedVariables false
/-- The row while it is turned. -/
def hafE (es : List Int) (f : Int → Int) (k : Nat) : List Int := (es.take k).map f ++ es.drop k
theorem hafE_zero (es : List Int) (f : Int → Int) : hafE es f 0 = es := by simp [hafE]
theorem hafE_all (es : List Int) (f : Int → Int) {k : Nat} (h : es.length ≤ k) : hafE es f k = es.map f := by
  unfold hafE
  rw [List.take_of_length_le h, List.drop_eq_nil_of_le h, List.append_nil]
theorem hafE_len (es : List Int) (f : Int → Int) (k : Nat) : (hafE es f k).length = es.length := by
  unfold hafE
  rw [List.length_append, List.length_map, List.length_take, List.length_drop]; omega
theorem hafE_at {es : List Int} (f : Int → Int) {k : Nat} (h : k < es.length) : (hafE es f k).getD k 0 = es.getD k 0 := by
  unfold hafE
  have hl : ((es.take k).map f).length = k := by simp; omega
  rw [List.getD_eq_getElem?_getD, List.getElem?_append_right (by omega), hl, List.getElem?_drop, List.getD_eq_getElem?_getD, Nat.sub_self, Nat.add_zero]
theorem hafE_set {es : List Int} (f : Int → Int) {k : Nat} (h : k < es.length) : (hafE es f k).set k (f (es.getD k 0)) = hafE es f (k + 1) := by
  unfold hafE
  have hl : ((es.take k).map f).length = k := by simp; omega
  rw [List.set_append_right _ _ (by omega), hl, Nat.sub_self, List.take_succ_eq_append_getElem h, List.map_append, List.append_assoc]
  congr 1
  rw [List.drop_eq_getElem_cons h, List.getD_eq_getElem?_getD, List.getElem?_eq_getElem h]
  rfl
/-- The nodes of the cut above the ends. -/
def cutN9 (ps : List Int) (d : Int) : List Int := (endsT ps).map fun e => (ancT ps d).getD e.toNat 0
theorem cutN9_len (ps : List Int) (d : Int) : (cutN9 ps d).length = (endsT ps).length := by simp [cutN9]
theorem cutN9_at {ps : List Int} {d : Int} {i : Nat} (hi : i < (endsT ps).length) : (cutN9 ps d).getD i 0 = (ancT ps d).getD ((endsT ps).getD i 0).toNat 0 := by
  have e : (endsT ps).getD i 0 = (endsT ps)[i] := by rw [List.getD_eq_getElem?_getD, List.getElem?_eq_getElem hi]; rfl
  rw [e]
  unfold cutN9
  rw [List.getD_eq_getElem?_getD, List.getElem?_map, List.getElem?_eq_getElem hi]; rfl
/-- The same key has the same number, among the first k. -/
def SameTo (K vs : List Int) (k : Nat) : Prop := ∀ j, j < k → ∀ i, i < j → K.getD i 0 = K.getD j 0 → vs.getD i 0 = vs.getD j 0
def sameB (K vs : List Int) : Bool := (List.range K.length).all fun j => (List.range j).all fun i => !(K.getD i 0 == K.getD j 0) || vs.getD i 0 == vs.getD j 0
theorem sameB_iff {K vs : List Int} : sameB K vs = true ↔ SameTo K vs K.length := by
  unfold sameB SameTo
  simp only [List.all_eq_true, List.mem_range, Bool.or_eq_true, Bool.not_eq_true', beq_eq_false_iff_ne, beq_iff_eq]
  constructor
  · intro h j hj i hi e
    rcases h j hj i hi with h1 | h1
    · exact absurd e h1
    · exact h1
  · intro h j hj i hi
    by_cases e : K.getD i 0 = K.getD j 0
    · exact .inr (h j hj i hi e)
    · exact .inl e
theorem sameB_no {K vs : List Int} {i j : Nat} (hj : j < K.length) (hi : i < j) (h1 : K.getD i 0 = K.getD j 0) (h2 : vs.getD i 0 ≠ vs.getD j 0) : sameB K vs = false := by
  cases hb : sameB K vs
  · rfl
  · exact absurd (sameB_iff.1 hb j hj i hi h1) h2
theorem pairF_some {K vs : List Int} {z v : Int} : ∀ k, pairF K vs k z = some v → ∃ i, i < k ∧ K.getD i 0 = z ∧ vs.getD i 0 = v := by
  intro k
  induction k with
  | zero => intro h; cases h
  | succ k ih =>
    intro h
    rw [pairF] at h
    unfold putF at h
    by_cases e : z = K.getD k 0
    · rw [if_pos e] at h
      injection h with h
      exact ⟨k, by omega, e.symm, h⟩
    · rw [if_neg e] at h
      obtain ⟨i, h1, h2⟩ := ih h
      exact ⟨i, by omega, h2⟩
theorem pairF_none {K vs : List Int} {z : Int} : ∀ k, pairF K vs k z = none → ∀ i, i < k → K.getD i 0 ≠ z := by
  intro k
  induction k with
  | zero => intro _ i hi; omega
  | succ k ih =>
    intro h i hi
    rw [pairF] at h
    unfold putF at h
    by_cases e : z = K.getD k 0
    · rw [if_pos e] at h; cases h
    · rw [if_neg e] at h
      rcases Nat.lt_or_ge i k with h' | h'
      · exact ih h i h'
      · obtain rfl : i = k := by omega
        exact fun c => e c.symm
theorem same_next {K vs : List Int} {k : Nat} (h : SameTo K vs k) (hn : ∀ v, pairF K vs k (K.getD k 0) = some v → v = vs.getD k 0) : SameTo K vs (k + 1) := by
  intro j hj i hi e
  rcases Nat.lt_or_ge j k with h' | h'
  · exact h j h' i hi e
  · obtain rfl : j = k := by omega
    cases hp : pairF K vs j (K.getD j 0) with
    | none => exact absurd e (pairF_none j hp i hi)
    | some v =>
      have hv := hn v hp
      obtain ⟨i2, h1, h2, h3⟩ := pairF_some j hp
      rcases Nat.lt_trichotomy i i2 with h4 | h4 | h4
      · have := h i2 h1 i h4 (by omega); omega
      · subst h4; omega
      · have := h i hi i2 h4 (by omega); omega
theorem same_bad {K vs : List Int} {k : Nat} {v : Int} (hk : k < K.length) (hp : pairF K vs k (K.getD k 0) = some v) (h : v ≠ vs.getD k 0) : sameB K vs = false := by
  obtain ⟨i, h1, h2, h3⟩ := pairF_some k hp
  exact sameB_no hk h1 h2 (by omega)
/-- Whether pays are known at a time. -/
def knB (ps vs : List Int) (d : Nat) : Bool := sameB (cutN9 ps (d : Int)) vs
/-- In the deepest cut each end stands alone. -/
theorem knB_deep {ps ws : List Int} (g : Good ps ws) (vs : List Int) : knB ps vs ps.length = true := by
  unfold knB
  rw [sameB_iff]
  intro j hj i hi e
  rw [cutN9_len] at hj
  obtain ⟨x, hx, hxl, _⟩ := ends_in (ps := ps) hj
  obtain ⟨y, hy, hyl, _⟩ := ends_in (ps := ps) (i := i) (by omega)
  have hdx := depthsT_bd ps x hxl
  have hdy := depthsT_bd ps y hyl
  rw [cutN9_at hj, cutN9_at (by omega), ← hx, ← hy, Int.toNat_natCast, Int.toNat_natCast, anc_here (ParOk.of g) (by omega) hxl (by omega), anc_here (ParOk.of g) (by omega) hyl (by omega)] at e
  have := up_lt (ends_up ps) hi hj
  omega
/-- The first one that a test takes. -/
def firstW (p : Nat → Bool) : Nat → Nat → Nat
  | 0, d => d
  | f + 1, d => if p d = true then d else firstW p f (d + 1)
theorem firstW_hit {p : Nat → Bool} {f d : Nat} (h : p d = true) : firstW p f d = d := by
  cases f with
  | zero => rfl
  | succ f => rw [firstW, if_pos h]
theorem firstW_miss {p : Nat → Bool} {f d : Nat} (h : p d = false) : firstW p (f + 1) d = firstW p f (d + 1) := by
  rw [firstW, if_neg (by rw [h]; decide)]
theorem firstW_le (p : Nat → Bool) : ∀ f d, firstW p f d ≤ d + f := by
  intro f
  induction f with
  | zero => intro d; exact Nat.le_refl _
  | succ f ih =>
    intro d
    rw [firstW]
    split
    · omega
    · have := ih (d + 1); omega
def knR (ps vs : List Int) : Nat := firstW (knB ps vs) ps.length 0
def knV (ps ws vs : List Int) : Value := .tuple #[.int .i64 (if payB ps ws vs = true then (knR ps vs : Int) else 0), .bool (payB ps ws vs)]
theorem knV_form (ps ws vs : List Int) : ∃ rx ok, knV ps ws vs = .tuple #[.int .i64 rx, .bool ok] := ⟨_, _, rfl⟩
theorem knV_no {ps ws vs : List Int} (h : payB ps ws vs = false) : knV ps ws vs = .tuple #[.int .i64 0, .bool false] := by unfold knV; rw [h]; rfl
theorem knV_ok {ps ws vs : List Int} (h : payB ps ws vs = true) : knV ps ws vs = .tuple #[.int .i64 (knR ps vs), .bool true] := by unfold knV; rw [h]; rfl
/-- Among the ends below one node. -/
def SameAt (K vs : List Int) (c : Int) (k : Nat) : Prop := ∀ j, j < k → ∀ i, i < j → K.getD i 0 = c → K.getD j 0 = c → vs.getD i 0 = vs.getD j 0
theorem same_of_at {ps ws vs : List Int} (g : Good ps ws) {d : Nat} (h : ∀ k, k < (cutT ps ws (d : Int)).length → SameAt (cutN9 ps (d : Int)) vs ((cutT ps ws (d : Int)).getD k 0) (endsT ps).length) : knB ps vs d = true := by
  unfold knB
  rw [sameB_iff]
  intro j hj i hi e
  rw [cutN9_len] at hj
  obtain ⟨x, hx, hxl, hl⟩ := ends_in (ps := ps) hj
  obtain ⟨h1, h2⟩ := crank_at (ws := ws) g (show (0 : Int) ≤ (d : Int) by omega) hxl hl
  have e2 : (cutN9 ps (d : Int)).getD j 0 = (ancT ps (d : Int)).getD x 0 := by rw [cutN9_at hj, ← hx, Int.toNat_natCast]
  exact h _ h1 j hj i hi (by rw [e, e2, h2]) (by rw [e2, h2])
theorem at_bad {ps vs : List Int} {d : Nat} {c : Int} {i j : Nat} (hj : j < (endsT ps).length) (hi : i < j) (h1 : (cutN9 ps (d : Int)).getD i 0 = c) (h2 : (cutN9 ps (d : Int)).getD j 0 = c) (h3 : vs.getD i 0 ≠ vs.getD j 0) : knB ps vs d = false :=
  sameB_no (by rw [cutN9_len]; exact hj) hi (by rw [h1, h2]) h3
/-- What is known of the ends before the i-th one: none below c, or the last one of them. -/
def LastAt (K : List Int) (c : Int) (i : Nat) (f : Int) : Prop := (f = -1 ∧ ∀ j, j < i → K.getD j 0 ≠ c) ∨ ∃ m : Nat, f = (m : Int) ∧ m < i ∧ K.getD m 0 = c
theorem sameAt_skip {K vs : List Int} {c : Int} {i : Nat} (h : SameAt K vs c i) (hn : K.getD i 0 ≠ c) : SameAt K vs c (i + 1) := by
  intro j hj k hk e1 e2
  rcases Nat.lt_or_ge j i with h' | h'
  · exact h j h' k hk e1 e2
  · obtain rfl : j = i := by omega
    exact absurd e2 hn
theorem sameAt_next {K vs : List Int} {c : Int} {i m : Nat} (h : SameAt K vs c i) (hm : m < i) (hc : K.getD m 0 = c) (hv : vs.getD m 0 = vs.getD i 0) : SameAt K vs c (i + 1) := by
  intro j hj k hk e1 e2
  rcases Nat.lt_or_ge j i with h' | h'
  · exact h j h' k hk e1 e2
  · obtain rfl : j = i := by omega
    rcases Nat.lt_trichotomy k m with h4 | h4 | h4
    · have := h m hm k h4 e1 hc; omega
    · subst h4; exact hv
    · have := h k hk m h4 hc e1; omega
theorem sameAt_first {K vs : List Int} {c : Int} {i : Nat} (h : ∀ j, j < i → K.getD j 0 ≠ c) : SameAt K vs c (i + 1) := by
  intro j hj k hk e1 e2
  exact absurd e1 (h k (by omega))
theorem lastAt_skip {K : List Int} {c f : Int} {i : Nat} (h : LastAt K c i f) (hn : K.getD i 0 ≠ c) : LastAt K c (i + 1) f := by
  rcases h with ⟨h1, h2⟩ | ⟨m, h1, h2, h3⟩
  · refine .inl ⟨h1, fun j hj => ?_⟩
    rcases Nat.lt_or_ge j i with h' | h'
    · exact h2 j h'
    · obtain rfl : j = i := by omega
      exact hn
  · exact .inr ⟨m, h1, by omega, h3⟩
end Go.Proofs.Ytonlibncccljgaa
