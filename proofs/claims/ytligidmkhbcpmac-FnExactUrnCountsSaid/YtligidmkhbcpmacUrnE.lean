/- Quotients of products, as the model cuts them. No program is spoken of here. -/
import Derived.Test.YtligidmkhbcpmacUrnQ
import Derived.Test.YtligidmkhbcpmacFracK
namespace Go.Proofs.Ytligidmkhbcpmac
open Go.RowKit
set_option linter.unusedVariables false
def tfF (T : List Int) : Nat → Int := fun j => max 1 (T.getD j 0)
theorem tf_pos (T : List Int) (j : Nat) : 1 ≤ tfF T j := by unfold tfF; omega
theorem tf_eq {T : List Int} {j : Nat} (h : 1 ≤ T.getD j 0) : tfF T j = T.getD j 0 := by unfold tfF; omega
theorem tf_le {T : List Int} (h : ∀ j, T.getD j 0 ≤ 300) (j : Nat) : tfF T j ≤ 300 := by have := h j; unfold tfF; omega
theorem prodN_tf {T : List Int} (h : ∀ j, j < T.length → 1 ≤ T.getD j 0) : ∀ k, k ≤ T.length → prodN (tfF T) k = prodI (T.take k)
  | 0, _ => by simp [prodN, prodI]
  | k + 1, hk => by
      rw [prod_take T (by omega), ← prodN_tf h k (by omega), ← tf_eq (h k (by omega))]
      rfl
/-- What is left of a number above. -/
def alF (B T : List Int) (j : Nat) : Int := (cutK (urK B (tfF T) j).1 (tfF T j) B.length).2
def alL (B T : List Int) (i : Nat) : List Int := preL (fun j => if j < i then alF B T j else T.getD j 0) T.length
theorem al_len (B T : List Int) (i : Nat) : (alL B T i).length = T.length := pre_len _ _
theorem al_zero (B T : List Int) : alL B T 0 = T := by
  apply List.ext_getElem
  · exact al_len B T 0
  · intro j h1 h2
    simp only [alL, preL, List.getElem_map, List.getElem_range]
    rw [if_neg (Nat.not_lt_zero j), List.getD_eq_getElem?_getD, List.getElem?_eq_getElem h2]; rfl
theorem al_at {B T : List Int} {i : Nat} (h : i < T.length) : (alL B T i).getD i 0 = T.getD i 0 := by
  unfold alL; rw [pre_at h, if_neg (Nat.lt_irrefl i)]
theorem al_done {B T : List Int} {i j : Nat} (h : j < T.length) (hj : j < i) : (alL B T i).getD j 0 = alF B T j := by
  unfold alL; rw [pre_at h, if_pos hj]
theorem al_start {B T : List Int} {i : Nat} (h : 1 ≤ T.getD i 0) : (alL B T i).set i (tfF T i) = alL B T i := by
  rw [tf_eq h]
  unfold alL
  rw [pre_set]
  refine pre_congr fun j hj => ?_
  by_cases e : j = i
  · subst e; rw [if_pos rfl, if_neg (Nat.lt_irrefl j)]
  · rw [if_neg e]
theorem al_next (B T : List Int) (i : Nat) : (alL B T i).set i (alF B T i) = alL B T (i + 1) := by
  unfold alL
  rw [pre_set]
  refine pre_congr fun j hj => ?_
  by_cases e : j = i
  · subst e; rw [if_pos rfl, if_pos (by omega)]
  · rw [if_neg e]
    by_cases h : j < i
    · rw [if_pos h, if_pos (by omega)]
    · rw [if_neg h, if_neg (by omega)]
structure QuOk (T B : List Int) : Prop where
  nn : ∀ j, 0 ≤ T.getD j 0
  le : ∀ j, T.getD j 0 ≤ 300
  bp : ∀ j, j < B.length → 1 ≤ B.getD j 0
  bl : ∀ j, B.getD j 0 ≤ 300
def quV (T B : List Int) : Go.Value := keptV (cutN (prodI T) (prodI B)) (cutD (prodI T) (prodI B))
theorem quV_form (T B : List Int) : ∃ p q ok, quV T B = .tuple #[.agg #[.int .i64 p, .int .i64 q], .bool ok] := keptV_form _ _
theorem QuOk.b0 {T B : List Int} (h : QuOk T B) (j : Nat) : 0 ≤ B.getD j 0 := by
  rcases Nat.lt_or_ge j B.length with hj | hj
  · have := h.bp j hj; omega
  · rw [List.getD_eq_getElem?_getD, List.getElem?_eq_none hj]; exact Int.le_refl 0
theorem qu_zero {T B : List Int} (h : QuOk T B) {i : Nat} (hi : i < T.length) (hz : T.getD i 0 = 0) : quV T B = .tuple #[.agg #[.int .i64 0, .int .i64 1], .bool true] := by
  have p := prod_pos B h.bp
  unfold quV
  rw [prod_zero T i hi hz]
  have e1 : cutN 0 (prodI B) = 0 := by unfold cutN; exact Int.zero_ediv _
  have e2 : cutD 0 (prodI B) = 1 := by
    unfold cutD gI
    rw [Int.gcd_zero_left, show ((prodI B).natAbs : Int) = prodI B by omega]
    exact Int.ediv_self (by omega)
  rw [e1, e2]
  rfl
theorem take_mono {L : List Int} (h : ∀ j, j < L.length → 1 ≤ L.getD j 0) : ∀ n k, k ≤ n → n ≤ L.length → 1 ≤ prodI (L.take k) ∧ prodI (L.take k) ≤ prodI (L.take n)
  | 0, k, hk, _ => by rw [Nat.le_zero.1 hk]; simp [prodI]
  | n + 1, k, hk, hn => by
      have ih := take_mono h n n (Nat.le_refl _) (by omega)
      rw [prod_take L (by omega)]
      have x := h n (by omega)
      have m := Int.mul_le_mul (Int.le_refl (prodI (L.take n))) x (by omega) (by omega)
      by_cases e : k = n + 1
      · subst e
        rw [prod_take L (by omega)]
        exact ⟨by omega, Int.le_refl _⟩
      · have := take_mono h n k (by omega) (by omega)
        exact ⟨this.1, by omega⟩
/-- What is kept of the products, wherever they were left. -/
theorem qu_last {T B : List Int} (h : QuOk T B) (ht : ∀ j, j < T.length → 1 ≤ T.getD j 0) {i k : Nat} (hi : i ≤ T.length) (hk : k ≤ B.length)
    (e1 : i = T.length ∨ 1000000000 < (urK B (tfF T) i).2) (e2 : k = B.length ∨ 1000000 < prodI ((urK B (tfF T) T.length).1.take k)) :
    (if isFr (urK B (tfF T) i).2 (prodI ((urK B (tfF T) T.length).1.take k)) = true then Go.Value.tuple #[.agg #[.int .i64 (urK B (tfF T) i).2, .int .i64 (prodI ((urK B (tfF T) T.length).1.take k))], .bool true] else zeroP) = quV T B := by
  have o := ur_ok h.b0 (tf_pos T) T.length
  have lp := fun j hj => ur_posl h.bp (tf_pos T) T.length j hj
  have m1 := ur_mono h.b0 (tf_pos T) (ts := B) hi
  have m2 := take_mono (L := (urK B (tfF T) T.length).1) (fun j hj => lp j (by rw [← o.len]; exact hj)) B.length k hk (by rw [o.len]; exact Nat.le_refl _)
  have tk : (urK B (tfF T) T.length).1.take B.length = (urK B (tfF T) T.length).1 := by rw [← o.len, List.take_length]
  have pp := prod_pos (urK B (tfF T) T.length).1 (fun j hj => lp j (by rw [← o.len]; exact hj))
  have pb := prod_pos B h.bp
  have c := ur_cut2 h.bp (tf_pos T) T.length pb pp
  rw [prodN_tf ht T.length (Nat.le_refl _), List.take_length] at c
  rw [tk] at m2
  have fr : isFr (cutN (prodI T) (prodI B)) (cutD (prodI T) (prodI B)) = inB (cutN (prodI T) (prodI B)) (cutD (prodI T) (prodI B)) := isFr_cut (by omega)
  unfold quV keptV
  by_cases h1 : i = T.length
  · subst h1
    by_cases h2 : k = B.length
    · subst h2
      rw [tk, ← c.1, ← c.2, fr]
      rfl
    · have e2 := e2.resolve_left h2
      rw [if_neg, if_neg]
      · rfl
      · unfold inB; rw [decide_eq_true_iff, c.1, c.2]; omega
      · unfold isFr inB; rw [Bool.and_eq_true, decide_eq_true_iff]; omega
  · have e1 := e1.resolve_left h1
    rw [if_neg, if_neg]
    · rfl
    · unfold inB; rw [decide_eq_true_iff, c.1, c.2]; omega
    · unfold isFr inB; rw [Bool.and_eq_true, decide_eq_true_iff]; omega
theorem qu_kept {T B : List Int} (h : QuOk T B) (ht : ∀ j, j < T.length → 1 ≤ T.getD j 0) {i k : Nat} (hi : i ≤ T.length) (hk : k ≤ B.length)
    (e1 : i = T.length ∨ 1000000000 < (urK B (tfF T) i).2) (e2 : k = B.length ∨ 1000000 < prodI ((urK B (tfF T) T.length).1.take k)) (w : World) :
    Calls Try.prog 209 #[.agg #[.int .i64 (urK B (tfF T) i).2, .int .i64 (prodI ((urK B (tfF T) T.length).1.take k))]] w (Gives (quV T B) w) := by
  rw [← qu_last h ht hi hk e1 e2]
  cases f : isFr (urK B (tfF T) i).2 (prodI ((urK B (tfF T) T.length).1.take k))
  · rw [if_neg (by decide)]; exact keptS_no _ _ w f
  · rw [if_pos rfl]; exact keptS_yes _ _ w f
end Go.Proofs.Ytligidmkhbcpmac
