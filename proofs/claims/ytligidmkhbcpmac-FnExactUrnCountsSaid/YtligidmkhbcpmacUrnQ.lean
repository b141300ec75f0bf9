/- The chance of draws, reckoned. No program is spoken of here. -/
import Derived.Test.YtligidmkhbcpmacUrnH
import Derived.Test.YtligidmkhbcpmacFracR
import Derived.Test.YtligidmkhbcpmacFracB
namespace Go.Proofs.Ytligidmkhbcpmac
set_option linter.unusedVariables false
theorem cut_le {ts : List Int} {f : Int} (hts : ∀ j, 0 ≤ ts.getD j 0) (hf : 1 ≤ f) : ∀ i, i ≤ ts.length → ∀ j, (cutK ts f i).1.getD j 0 ≤ ts.getD j 0
  | 0, _, j => Int.le_refl _
  | i + 1, hi, j => by
      have ih := cut_le hts hf i (by omega)
      have o := cut_ok hts hf i (by omega)
      show ((cutK ts f i).1.set i _).getD j 0 ≤ _
      rw [getD_set]
      split
      · rename_i hh
        obtain ⟨rfl, _⟩ := hh
        exact Int.le_trans (Int.ediv_le_self _ (o.nn i)) (ih i)
      · exact ih j
theorem ur_le {ts : List Int} {F : Nat → Int} (hts : ∀ j, 0 ≤ ts.getD j 0) (hF : ∀ k, 1 ≤ F k) : ∀ k j, (urK ts F k).1.getD j 0 ≤ ts.getD j 0
  | 0, j => Int.le_refl _
  | k + 1, j => by
      have o := ur_ok hts hF k
      exact Int.le_trans (cut_le o.nn (hF k) ts.length (by rw [o.len]; exact Nat.le_refl _) j) (ur_le hts hF k j)
structure ChOk (T : List Int) (F : Nat → Int) (n : Nat) : Prop where
  nn : ∀ j, 0 ≤ T.getD j 0
  le : ∀ j, T.getD j 0 ≤ 300
  fp : ∀ k, 1 ≤ F k
  fl : ∀ k, k < n → F k ≤ 300
  pn : 0 ≤ prodI T
  pq : prodI T ≤ prodN F n
def chV (T : List Int) (F : Nat → Int) (n : Nat) : Go.Value := keptV (cutN (prodI T) (prodN F n)) (cutD (prodI T) (prodN F n))
theorem ch_early {T : List Int} {F : Nat → Int} {n k : Nat} (h : ChOk T F n) (hk : k ≤ n) (hb : 1000000 < (urK T F k).2) : chV T F n = .tuple #[.agg #[.int .i64 0, .int .i64 0], .bool false] := by
  have m := ur_mono h.nn h.fp hk
  obtain ⟨e1, e2⟩ := ur_cut h.nn h.fp n
  unfold chV keptV
  rw [e1, e2, if_neg]
  unfold inB
  rw [decide_eq_true_iff]
  omega
theorem ch_last {T : List Int} {F : Nat → Int} {n : Nat} (h : ChOk T F n) (hb : (urK T F n).2 ≤ 1000000) :
    chV T F n = .tuple #[.agg #[.int .i64 (prodI (urK T F n).1), .int .i64 (urK T F n).2], .bool true] ∧ 0 ≤ prodI (urK T F n).1 ∧ prodI (urK T F n).1 ≤ 1000000 := by
  obtain ⟨e1, e2⟩ := ur_cut h.nn h.fp n
  have p := prodN_pos h.fp n
  have c := cut_cross (prodI T) (prodN F n)
  have o := (ur_ok h.nn h.fp n).pos
  rw [e1, e2] at c
  have l0 : 0 ≤ prodI (urK T F n).1 := by
    rw [← e1]
    exact Int.ediv_nonneg h.pn (gI_nonneg _ _)
  have l1 : prodI (urK T F n).1 ≤ (urK T F n).2 := by
    have h1 : prodI T * (urK T F n).2 ≤ prodN F n * (urK T F n).2 := Int.mul_le_mul_of_nonneg_right h.pq (by omega)
    rw [← c, Int.mul_comm (prodN F n)] at h1
    exact Int.le_of_mul_le_mul_right h1 (by omega)
  refine ⟨?_, l0, by omega⟩
  unfold chV keptV
  rw [e1, e2, if_pos]
  unfold inB
  rw [decide_eq_true_iff]
  omega
/-- The numbers above: how many orders, and what is drawn. -/
def tpZ (W r b x : Int) (p q : Nat) : Nat → List Int
  | 0 => [W]
  | 1 => preL (grF r x) p
  | _ => preL (grF b x) q
def tpL (W r b x : Int) (p q : Nat) : List Int := catL (tpZ W r b x p q) 3
theorem tpL_eq (W r b x : Int) (p q : Nat) : tpL W r b x p q = W :: (preL (grF r x) p ++ preL (grF b x) q) := by
  simp [tpL, catL, tpZ]
theorem tpL_len (W r b x : Int) (p q : Nat) : (tpL W r b x p q).length = 1 + p + q := by
  rw [tpL_eq]; simp [pre_len]; omega
theorem prod_gr (a x : Int) : ∀ p, prodI (preL (grF a x) p) = risI a x p
  | 0 => rfl
  | p + 1 => by
      rw [pre_succ, prod_app, prod_gr a x p]
      simp [prodI, risI, grF]
theorem prodN_gr (a x : Int) : ∀ n, prodN (grF a x) n = risI a x n
  | 0 => rfl
  | n + 1 => by show prodN (grF a x) n * grF a x n = risI a x n * (a + (n : Int) * x); rw [prodN_gr a x n]; rfl
theorem prod_tp (W r b x : Int) (p q : Nat) : prodI (tpL W r b x p q) = W * risI r x p * risI b x q := by
  rw [tpL_eq]
  show W * prodI (preL (grF r x) p ++ preL (grF b x) q) = _
  rw [prod_app, prod_gr, prod_gr, Int.mul_assoc]
theorem gr_nn {a x : Int} (ha : 0 ≤ a) (hx : 0 ≤ x) (i : Nat) : 0 ≤ grF a x i := Int.add_nonneg ha (Int.mul_nonneg (by omega) hx)
theorem gr_le {a x : Int} {i : Nat} (ha : a ≤ 40) (hx : 0 ≤ x ∧ x ≤ 20) (hi : i < 10) : grF a x i ≤ 300 := by
  have : (i : Int) * x ≤ 9 * 20 := Int.mul_le_mul (by omega) hx.2 hx.1 (by omega)
  unfold grF; omega
theorem getD_allU {P : Int → Prop} (h0 : P 0) {l : List Int} (h : ∀ z ∈ l, P z) (j : Nat) : P (l.getD j 0) := by
  rw [List.getD_eq_getElem?_getD]
  rcases Nat.lt_or_ge j l.length with hj | hj
  · rw [List.getElem?_eq_getElem hj]; exact h _ (List.getElem_mem hj)
  · rw [List.getElem?_eq_none hj]; exact h0
theorem tp_mem {W r b x : Int} {p q : Nat} (hW : 1 ≤ W ∧ W ≤ 252) (hr : 0 ≤ r ∧ r ≤ 20) (hb : 0 ≤ b ∧ b ≤ 20) (hx : 0 ≤ x ∧ x ≤ 20) (hn : p + q ≤ 10) : ∀ z ∈ tpL W r b x p q, 0 ≤ z ∧ z ≤ 300 := by
  rw [tpL_eq]
  intro z hz
  rcases List.mem_cons.1 hz with rfl | hz
  · omega
  · rcases List.mem_append.1 hz with hz | hz
    · obtain ⟨i, hi, rfl⟩ := List.mem_map.1 hz
      have := List.mem_range.1 hi
      exact ⟨gr_nn hr.1 hx.1 i, gr_le (by omega) hx (by omega)⟩
    · obtain ⟨i, hi, rfl⟩ := List.mem_map.1 hz
      have := List.mem_range.1 hi
      exact ⟨gr_nn hb.1 hx.1 i, gr_le (by omega) hx (by omega)⟩
theorem ch_ok {W r b x : Int} {p q : Nat} (hW : 1 ≤ W ∧ W ≤ 252) (hWc : W ≤ (chN (p + q) p : Nat)) (hr : 0 ≤ r ∧ r ≤ 20) (hb : 0 ≤ b ∧ b ≤ 20) (hx : 0 ≤ x ∧ x ≤ 20) (hp : 0 < r + b) (hn : p + q ≤ 10) : ChOk (tpL W r b x p q) (grF (r + b) x) (p + q) := by
  have m := tp_mem hW hr hb hx hn
  have n1 := ris_nn hr.1 hx.1 p
  have n2 := ris_nn hb.1 hx.1 q
  refine ⟨fun j => getD_allU (P := fun z => 0 ≤ z) (Int.le_refl 0) (fun z hz => (m z hz).1) j, fun j => getD_allU (P := fun z => z ≤ 300) (by omega) (fun z hz => (m z hz).2) j, fun k => ?_, fun k hk => gr_le (by omega) hx (by omega), ?_, ?_⟩
  · have : 0 ≤ (k : Int) * x := Int.mul_nonneg (by omega) hx.1
    unfold grF; omega
  · rw [prod_tp]; exact Int.mul_nonneg (Int.mul_nonneg (by omega) n1) n2
  · rw [prod_tp, prodN_gr]
    have t := tr_le (x := r) (y := b) (e := x) hr.1 hb.1 hx.1 (n := p + q) (r := p) (by omega) (by omega)
    unfold trI at t
    rw [show p + q - p = q by omega] at t
    exact Int.le_trans (Int.mul_le_mul_of_nonneg_right (Int.mul_le_mul_of_nonneg_right hWc n1) n2) t
end Go.Proofs.Ytligidmkhbcpmac
