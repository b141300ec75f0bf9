/- The weights of the best of several offers. No program is spoken of here. -/
import Derived.Test.YtnpiciabpgkiiaaL7P
namespace Go.Proofs.Ytnpiciabpgkiiaa
set_option linter.unusedVariables false
/-- The lists are the laws of offers. -/
def lawsB (R : Nat) (f : Nat → List Int) : Bool := decide (R ≤ 4) && (List.range R).all fun i => lawB (f i)
structure Laws (R : Nat) (f : Nat → List Int) : Prop where
  n4 : R ≤ 4
  law : ∀ i, i < R → Law (f i)
theorem lawsB_iff {R : Nat} {f : Nat → List Int} : lawsB R f = true ↔ Laws R f := by
  unfold lawsB
  rw [Bool.and_eq_true, decide_eq_true_iff, List.all_eq_true]
  simp only [List.mem_range]
  exact ⟨fun h => ⟨h.1, fun i hi => lawB_iff.1 (h.2 i hi)⟩, fun h => ⟨h.n4, fun i hi => lawB_iff.2 (h.law i hi)⟩⟩
theorem allR_no {R : Nat} {f : Nat → List Int} {i : Nat} (hi : i < R) (h : lawB (f i) = false) : ((List.range R).all fun i => lawB (f i)) = false := by
  cases hb : ((List.range R).all fun i => lawB (f i))
  · rfl
  · rw [List.all_eq_true] at hb
    have := hb i (List.mem_range.2 hi)
    rw [h] at this; cases this
theorem allR_yes {R : Nat} {f : Nat → List Int} (h : ∀ i, i < R → lawB (f i) = true) : ((List.range R).all fun i => lawB (f i)) = true := by
  rw [List.all_eq_true]
  intro i hi
  exact h i (List.mem_range.1 hi)
theorem lawsB_no {R : Nat} {f : Nat → List Int} {i : Nat} (hi : i < R) (h : lawB (f i) = false) : lawsB R f = false := by
  unfold lawsB; rw [allR_no hi h, Bool.and_false]
/-- A number put on the one at a place. -/
def bmpL (acc : List Int) (m : Nat) (x : Int) : List Int := acc.set m (acc.getD m 0 + x)
def inT (now law : List Int) (v : Nat) (acc : List Int) : Nat → List Int
  | 0 => acc
  | u + 1 => bmpL (inT now law v acc u) (max u v) (now.getD v 0 * law.getD u 0)
def outT (now law : List Int) : Nat → List Int
  | 0 => List.replicate 5 0
  | v + 1 => inT now law v (outT now law v) law.length
def bwT (f : Nat → List Int) : Nat → List Int
  | 0 => [1, 0, 0, 0, 0]
  | i + 1 => outT (bwT f i) (f i) 5
theorem bmpL_len (acc : List Int) (m : Nat) (x : Int) : (bmpL acc m x).length = acc.length := by unfold bmpL; simp
theorem inT_len (now law : List Int) (v : Nat) (acc : List Int) : ∀ u, (inT now law v acc u).length = acc.length
  | 0 => rfl
  | u + 1 => by simp only [inT]; rw [bmpL_len]; exact inT_len now law v acc u
theorem outT_len (now law : List Int) : ∀ v, (outT now law v).length = 5
  | 0 => by simp [outT]
  | v + 1 => by simp only [outT]; rw [inT_len]; exact outT_len now law v
theorem bwT_len (f : Nat → List Int) : ∀ i, (bwT f i).length = 5
  | 0 => rfl
  | i + 1 => outT_len _ _ 5
theorem bmpL_at {acc : List Int} {m i : Nat} {x : Int} (hm : m < acc.length) : (bmpL acc m x).getD i 0 = acc.getD i 0 + (if m = i then x else 0) := by
  unfold bmpL
  rw [List.getD_eq_getElem?_getD, List.getElem?_set, List.getD_eq_getElem?_getD]
  by_cases h : m = i
  · subst h; rw [if_pos rfl, if_pos hm, if_pos rfl]; rw [List.getD_eq_getElem?_getD]; rfl
  · rw [if_neg h, if_neg h, Int.add_zero, List.getD_eq_getElem?_getD]
theorem smT_bmp {acc : List Int} {m : Nat} {x : Int} (hm : m < acc.length) : ∀ k, smT (bmpL acc m x) k = smT acc k + (if m < k then x else 0)
  | 0 => by simp [smT]
  | k + 1 => by
    have ih := smT_bmp (x := x) hm k
    simp only [smT]
    rw [ih, bmpL_at hm]
    by_cases h1 : m < k
    · rw [if_pos h1, if_neg (by omega), if_pos (by omega)]; omega
    · by_cases h2 : m = k
      · rw [if_neg h1, if_pos h2, if_pos (by omega)]; omega
      · rw [if_neg h1, if_neg h2, if_neg (by omega)]; omega
def nonneg (L : List Int) : Prop := ∀ i, 0 ≤ L.getD i 0
theorem smT_nn {L : List Int} (h : nonneg L) : ∀ k, 0 ≤ smT L k
  | 0 => by simp [smT]
  | k + 1 => by have a := smT_nn h k; have b := h k; simp only [smT]; omega
theorem nonneg_le {L : List Int} (h : nonneg L) : ∀ k i, i < k → L.getD i 0 ≤ smT L k
  | k + 1, i, hi => by
    simp only [smT]
    have a := h k
    rcases Nat.lt_or_ge i k with h1 | h1
    · have := nonneg_le h k i h1; omega
    · rw [show i = k by omega]
      have := smT_nn h k
      omega
theorem in_tot {now law acc : List Int} {v : Nat} (ha : acc.length = 5) (hv : v < 5) (hl : law.length ≤ 5) : ∀ u, u ≤ law.length → smT (inT now law v acc u) 5 = smT acc 5 + now.getD v 0 * smT law u
  | 0, _ => by simp [inT, smT]
  | u + 1, hu => by
    have ih := in_tot (now := now) ha hv hl u (by omega)
    simp only [inT]
    rw [smT_bmp (by rw [inT_len, ha]; omega), if_pos (by omega), ih]
    simp only [smT]
    rw [Int.mul_add]; omega
theorem out_tot {now law : List Int} (hl : law.length ≤ 5) : ∀ v, v ≤ 5 → smT (outT now law v) 5 = smT now v * smT law law.length
  | 0, _ => by simp [outT, smT]
  | v + 1, hv => by
    have ih := out_tot (now := now) hl v (by omega)
    simp only [outT]
    rw [in_tot (outT_len _ _ _) (by omega) hl _ (Nat.le_refl _), ih]
    simp only [smT]
    rw [Int.add_mul]
theorem bmp_nn {acc : List Int} {m : Nat} {x : Int} (h : nonneg acc) (hm : m < acc.length) (hx : 0 ≤ x) : nonneg (bmpL acc m x) := fun i => by
  rw [bmpL_at hm]
  have := h i
  split <;> omega
theorem law_nn {zs : List Int} (p : Law zs) : nonneg zs := fun i => by
  by_cases h : i < zs.length
  · exact (p.bd i h).1
  · rw [List.getD_eq_getElem?_getD, List.getElem?_eq_none (by omega)]; simp
theorem in_nn {now law acc : List Int} {v : Nat} (hn : nonneg now) (hlaw : nonneg law) (ha : acc.length = 5) (hacc : nonneg acc) (hv : v < 5) (hl : law.length ≤ 5) : ∀ u, u ≤ law.length → nonneg (inT now law v acc u)
  | 0, _ => hacc
  | u + 1, hu => by
    simp only [inT]
    exact bmp_nn (in_nn hn hlaw ha hacc hv hl u (by omega)) (by rw [inT_len, ha]; omega) (Int.mul_nonneg (hn v) (hlaw u))
theorem out_nn {now law : List Int} (hn : nonneg now) (hlaw : nonneg law) (hl : law.length ≤ 5) : ∀ v, v ≤ 5 → nonneg (outT now law v)
  | 0, _ => fun i => by
    simp only [outT]
    rw [List.getD_eq_getElem?_getD, List.getElem?_replicate]
    split <;> simp
  | v + 1, hv => by
    simp only [outT]
    exact in_nn hn hlaw (outT_len _ _ _) (out_nn hn hlaw hl v (by omega)) (by omega) hl _ (Nat.le_refl _)
theorem bw_nn {R : Nat} {f : Nat → List Int} (p : Laws R f) : ∀ i, i ≤ R → nonneg (bwT f i)
  | 0, _ => fun i => by
    simp only [bwT]
    match i with
    | 0 => simp
    | 1 => simp
    | 2 => simp
    | 3 => simp
    | 4 => simp
    | i + 5 => simp
  | i + 1, hi => by
    simp only [bwT]
    exact out_nn (bw_nn p i (by omega)) (law_nn (p.law i (by omega))) (p.law i (by omega)).n5 5 (Nat.le_refl _)
theorem bw_tot {R : Nat} {f : Nat → List Int} (p : Laws R f) : ∀ i, i ≤ R → 0 < smT (bwT f i) 5 ∧ smT (bwT f i) 5 ≤ ((25 ^ i : Nat) : Int)
  | 0, _ => by simp only [bwT]; decide
  | i + 1, hi => by
    have ih := bw_tot p i (by omega)
    have L := p.law i (by omega)
    have s := L.sum_bd (Nat.le_refl _)
    simp only [bwT]
    rw [out_tot L.n5 5 (Nat.le_refl _)]
    refine ⟨Int.mul_pos ih.1 L.pos, ?_⟩
    rw [Nat.pow_succ, Int.natCast_mul]
    exact Int.mul_le_mul ih.2 s.2 s.1 (by omega)
theorem pow25 : ∀ i, i < 5 → 25 ^ i ≤ 390625 := by decide
theorem bw_le {R : Nat} {f : Nat → List Int} (p : Laws R f) {i : Nat} (hi : i ≤ R) : smT (bwT f i) 5 ≤ 390625 := by
  have a := (bw_tot p i hi).2
  have b := pow25 i (by have := p.n4; omega)
  omega
theorem bw_at {R : Nat} {f : Nat → List Int} (p : Laws R f) {i : Nat} (hi : i ≤ R) (v : Nat) (hv : v < 5) : 0 ≤ (bwT f i).getD v 0 ∧ (bwT f i).getD v 0 ≤ 390625 :=
  ⟨bw_nn p i hi v, Int.le_trans (nonneg_le (bw_nn p i hi) 5 v hv) (bw_le p hi)⟩
theorem smT_mono {L : List Int} (h : nonneg L) {k : Nat} : ∀ j, k ≤ j → smT L k ≤ smT L j
  | 0, hj => by rw [show k = 0 by omega]; exact Int.le_refl _
  | j + 1, hj => by
    rcases Nat.lt_or_ge k (j + 1) with a | a
    · have := smT_mono h (k := k) j (by omega)
      have := h j
      simp only [smT]; omega
    · rw [show k = j + 1 by omega]; exact Int.le_refl _
/-- What lies in the next row on the way: no number is too large. -/
theorem in_at {R : Nat} {f : Nat → List Int} (p : Laws R f) {i v u : Nat} (hi : i < R) (hv : v < 5) (hu : u ≤ (f i).length) (m : Nat) (hm : m < 5) :
    0 ≤ (inT (bwT f i) (f i) v (outT (bwT f i) (f i) v) u).getD m 0 ∧ (inT (bwT f i) (f i) v (outT (bwT f i) (f i) v) u).getD m 0 ≤ 19531250 := by
  have L := p.law i hi
  have nb := bw_nn p i (by omega)
  have nl := law_nn L
  have no := out_nn nb nl L.n5 v (by omega)
  have ni := in_nn nb nl (outT_len _ _ v) no hv L.n5 u hu
  refine ⟨ni m, Int.le_trans (nonneg_le ni 5 m hm) ?_⟩
  rw [in_tot (outT_len _ _ v) hv L.n5 u hu, out_tot L.n5 v (by omega)]
  have s := L.sum_bd (Nat.le_refl _)
  have su := L.sum_bd hu
  have w := bw_le p (i := i) (by omega)
  have wv := smT_mono nb (k := v) 5 (by omega)
  have w0 : 0 ≤ smT (bwT f i) v := smT_nn nb v
  have a := bw_at p (i := i) (by omega) v hv
  have m1 : smT (bwT f i) v * smT (f i) (f i).length ≤ 390625 * 25 := Int.mul_le_mul (by omega) s.2 s.1 (by omega)
  have m2 : (bwT f i).getD v 0 * smT (f i) u ≤ 390625 * 25 := Int.mul_le_mul a.2 su.2 su.1 (by omega)
  omega
def ifLaws (R : Nat) (f : Nat → List Int) (zs : List Int) : List Int := if lawsB R f = true then zs else []
theorem ifLaws_len {R : Nat} {f : Nat → List Int} : (ifLaws R f (bwT f R)).length ≤ 1048576 := by
  unfold ifLaws
  split
  · rw [bwT_len]; omega
  · simp
end Go.Proofs.Ytnpiciabpgkiiaa
