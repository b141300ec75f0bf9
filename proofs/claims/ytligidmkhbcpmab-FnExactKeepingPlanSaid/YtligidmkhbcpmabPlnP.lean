/- Plans and cost tables, told by lists. No program is spoken of here. -/
import Derived.Test.YtligidmkhbcpmabSprP
namespace Go.Proofs.Ytligidmkhbcpmab
set_option linter.unusedVariables false
/-- Whether something holds. -/
noncomputable def prB (p : Prop) : Bool := @decide p (Classical.propDecidable p)
theorem prB_yes {p : Prop} (h : p) : prB p = true := @decide_eq_true p (Classical.propDecidable p) h
theorem prB_no {p : Prop} (h : ¬ p) : prB p = false := @decide_eq_false p (Classical.propDecidable p) h
theorem prB_iff {p : Prop} : prB p = true ↔ p := ⟨fun h => @of_decide_eq_true p (Classical.propDecidable p) h, prB_yes⟩
/-- A square table with numbers in 0..m. -/
structure Sqr (R : Nat) (f : Nat → List Int) (n : Nat) (m : Int) : Prop where
  rows : R = n
  len : ∀ i, i < R → (f i).length = n
  bd : ∀ i, i < R → ∀ k, k < n → 0 ≤ (f i).getD k 0 ∧ (f i).getD k 0 ≤ m
noncomputable def sqB (R : Nat) (f : Nat → List Int) (n : Nat) (m : Int) : Bool := prB (Sqr R f n m)
theorem sqB_iff {R : Nat} {f : Nat → List Int} {n : Nat} {m : Int} : sqB R f n m = true ↔ Sqr R f n m := prB_iff
theorem sqB_no {R : Nat} {f : Nat → List Int} {n : Nat} {m : Int} (h : ¬ Sqr R f n m) : sqB R f n m = false := prB_no h
/-- A row that fits. -/
def rowB (zs : List Int) (n : Nat) (m : Int) : Bool := decide (zs.length = n) && fromB 0 m zs
theorem rowB_iff {zs : List Int} {n : Nat} {m : Int} : rowB zs n m = true ↔ zs.length = n ∧ ∀ k, k < n → 0 ≤ zs.getD k 0 ∧ zs.getD k 0 ≤ m := by
  unfold rowB
  rw [Bool.and_eq_true, decide_eq_true_iff]
  constructor
  · rintro ⟨a, b⟩; exact ⟨a, fun k hk => from_at b (by omega)⟩
  · rintro ⟨a, b⟩; exact ⟨a, from_yes (fun k hk => b k (by omega))⟩
theorem sqr_rows {R : Nat} {f : Nat → List Int} {n : Nat} {m : Int} : Sqr R f n m ↔ R = n ∧ ∀ i, i < R → rowB (f i) n m = true := by
  constructor
  · intro h; exact ⟨h.rows, fun i hi => rowB_iff.2 ⟨h.len i hi, h.bd i hi⟩⟩
  · rintro ⟨a, b⟩; exact ⟨a, fun i hi => (rowB_iff.1 (b i hi)).1, fun i hi => (rowB_iff.1 (b i hi)).2⟩
/-- The sum of a column. -/
def colT (f : Nat → List Int) (k : Nat) : Nat → Int
  | 0 => 0
  | i + 1 => colT f k i + (f i).getD k 0
/-- A plan of two lists. -/
structure Pln (ps qs : List Int) (R : Nat) (f : Nat → List Int) : Prop where
  sq : Sqr R f ps.length 40
  row : ∀ i, i < R → smT (f i) ps.length = ps.getD i 0
  col : ∀ k, k < ps.length → colT f k R = qs.getD k 0
noncomputable def plnB (ps qs : List Int) (R : Nat) (f : Nat → List Int) : Bool := prB (Pln ps qs R f)
theorem plnB_iff {ps qs : List Int} {R : Nat} {f : Nat → List Int} : plnB ps qs R f = true ↔ Pln ps qs R f := prB_iff
theorem plnB_no {ps qs : List Int} {R : Nat} {f : Nat → List Int} (h : ¬ Pln ps qs R f) : plnB ps qs R f = false := prB_no h
theorem plnB_yes {ps qs : List Int} {R : Nat} {f : Nat → List Int} (h : Pln ps qs R f) : plnB ps qs R f = true := plnB_iff.2 h
/-- Both spreads are alike, and the table is a plan of them. -/
noncomputable def gooB (ps qs : List Int) (R : Nat) (f : Nat → List Int) : Bool := aliB ps qs && plnB ps qs R f
structure Goo (ps qs : List Int) (R : Nat) (f : Nat → List Int) : Prop where
  ali : Ali ps qs
  pln : Pln ps qs R f
theorem gooB_iff {ps qs : List Int} {R : Nat} {f : Nat → List Int} : gooB ps qs R f = true ↔ Goo ps qs R f := by
  unfold gooB
  rw [Bool.and_eq_true, aliB_iff, plnB_iff]
  exact ⟨fun ⟨a, b⟩ => ⟨a, b⟩, fun h => ⟨h.ali, h.pln⟩⟩
theorem colT_bd {f : Nat → List Int} {k : Nat} {m : Nat} : ∀ i, (∀ j, j < i → 0 ≤ (f j).getD k 0 ∧ (f j).getD k 0 ≤ (m : Int)) → 0 ≤ colT f k i ∧ colT f k i ≤ ((i * m : Nat) : Int)
  | 0, _ => by simp [colT]
  | i + 1, h => by
    have a := colT_bd i (fun j hj => h j (by omega))
    have b := h i (by omega)
    have e : (i + 1) * m = i * m + m := Nat.succ_mul i m
    simp only [colT]; omega
theorem smT_in {zs : List Int} {n : Nat} {m : Nat} (h : ∀ i, i < n → 0 ≤ zs.getD i 0 ∧ zs.getD i 0 ≤ (m : Int)) : ∀ k, k ≤ n → 0 ≤ smT zs k ∧ smT zs k ≤ ((k * m : Nat) : Int)
  | 0, _ => by simp [smT]
  | k + 1, hk => by
    have a := smT_in h k (by omega)
    have b := h k (by omega)
    have e : (k + 1) * m = k * m + m := Nat.succ_mul k m
    simp only [smT]; omega
/-- What a plan keeps. -/
def dgT (f : Nat → List Int) : Nat → Int
  | 0 => 0
  | k + 1 => dgT f k + (f k).getD k 0
theorem dgT_bd {f : Nat → List Int} {m : Nat} : ∀ i, (∀ j, j < i → 0 ≤ (f j).getD j 0 ∧ (f j).getD j 0 ≤ (m : Int)) → 0 ≤ dgT f i ∧ dgT f i ≤ ((i * m : Nat) : Int)
  | 0, _ => by simp [dgT]
  | i + 1, h => by
    have a := dgT_bd i (fun j hj => h j (by omega))
    have b := h i (by omega)
    have e : (i + 1) * m = i * m + m := Nat.succ_mul i m
    simp only [dgT]; omega
/-- A plan that goes upward. -/
def Upw (R : Nat) (f : Nat → List Int) : Prop := ∀ i, i < R → ∀ k, k < i → (f i).getD k 0 ≤ 0
noncomputable def upwB (R : Nat) (f : Nat → List Int) : Bool := prB (Upw R f)
theorem upwB_yes {R : Nat} {f : Nat → List Int} (h : Upw R f) : upwB R f = true := prB_yes h
theorem upwB_no {R : Nat} {f : Nat → List Int} (h : ¬ Upw R f) : upwB R f = false := prB_no h
theorem smT_ge0 {zs : List Int} : ∀ n, (∀ i, i < n → 0 ≤ zs.getD i 0) → 0 ≤ smT zs n
  | 0, _ => by simp [smT]
  | n + 1, h => by have a := smT_ge0 n (fun i hi => h i (by omega)); have b := h n (by omega); simp only [smT]; omega
theorem smT_pos {zs : List Int} : ∀ n, (∀ i, i < n → 0 ≤ zs.getD i 0) → (smT zs n ≤ 0 ↔ ∀ i, i < n → zs.getD i 0 ≤ 0)
  | 0, _ => by simp [smT]
  | n + 1, h => by
    have ih := smT_pos n (fun i hi => h i (by omega))
    have g := smT_ge0 n (fun i hi => h i (by omega))
    have b := h n (by omega)
    simp only [smT]
    constructor
    · intro hs i hi
      rcases Nat.lt_or_ge i n with a | a
      · exact ih.1 (by omega) i a
      · rw [show i = n by omega]; omega
    · intro ha
      have a := ih.2 (fun i hi => ha i (by omega))
      have c := ha n (by omega)
      omega
/-- How far the units of a row drift. -/
def dfT (zs : List Int) (s : Nat) : Nat → Int
  | 0 => 0
  | k + 1 => dfT zs s k + zs.getD k 0 * ((k : Int) - (s : Int))
theorem df_mo (zs : List Int) (s : Nat) : ∀ k, dfT zs s k = moT zs k - smT zs k * (s : Int)
  | 0 => by simp [dfT, moT, smT]
  | k + 1 => by
    have a := df_mo zs s k
    simp only [dfT, moT, smT]
    rw [a, Int.mul_sub, Int.add_mul, Int.mul_comm (zs.getD k 0) (k : Int)]
    omega
def Cen (R : Nat) (f : Nat → List Int) (n : Nat) : Prop := ∀ i, i < R → dfT (f i) i n = 0
noncomputable def cenB (R : Nat) (f : Nat → List Int) (n : Nat) : Bool := prB (Cen R f n)
theorem cenB_yes {R n : Nat} {f : Nat → List Int} (h : Cen R f n) : cenB R f n = true := prB_yes h
theorem cenB_no {R n : Nat} {f : Nat → List Int} (h : ¬ Cen R f n) : cenB R f n = false := prB_no h
theorem df_bd {zs : List Int} {n s : Nat} (hn : n ≤ 8) (hs : s ≤ 8) (h : ∀ i, i < n → 0 ≤ zs.getD i 0 ∧ zs.getD i 0 ≤ 40) : ∀ k, k ≤ n → (k : Int) * (-320) ≤ dfT zs s k ∧ dfT zs s k ≤ (k : Int) * 320
  | 0, _ => by simp [dfT]
  | k + 1, hk => by
    have a := df_bd hn hs h k (by omega)
    have b := h k (by omega)
    have e1 : zs.getD k 0 * ((k : Int) - (s : Int)) ≤ 320 := by
      rcases Nat.lt_or_ge k s with c | c
      · have : zs.getD k 0 * ((k : Int) - (s : Int)) ≤ 0 := Int.mul_nonpos_of_nonneg_of_nonpos b.1 (by omega)
        omega
      · have : zs.getD k 0 * ((k : Int) - (s : Int)) ≤ 40 * 8 := Int.mul_le_mul b.2 (by omega) (by omega) (by omega)
        omega
    have e2 : -320 ≤ zs.getD k 0 * ((k : Int) - (s : Int)) := by
      rcases Nat.lt_or_ge k s with c | c
      · have : zs.getD k 0 * ((s : Int) - (k : Int)) ≤ 40 * 8 := Int.mul_le_mul b.2 (by omega) (by omega) (by omega)
        have e : zs.getD k 0 * ((k : Int) - (s : Int)) = -(zs.getD k 0 * ((s : Int) - (k : Int))) := by rw [← Int.mul_neg, show -((s : Int) - (k : Int)) = (k : Int) - (s : Int) by omega]
        omega
      · have := Int.mul_nonneg b.1 (show (0:Int) ≤ (k : Int) - (s : Int) by omega); omega
    have st : dfT zs s (k + 1) = dfT zs s k + zs.getD k 0 * ((k : Int) - (s : Int)) := rfl
    rw [st]
    clear st
    generalize zs.getD k 0 * ((k : Int) - (s : Int)) = P at *
    generalize dfT zs s k = D at *
    clear h b
    omega
/-- The cost of the first places of a row. -/
def rcT (zs cs : List Int) : Nat → Int
  | 0 => 0
  | k + 1 => rcT zs cs k + zs.getD k 0 * cs.getD k 0
/-- The cost of the first rows. -/
def coT (f c : Nat → List Int) (n : Nat) : Nat → Int
  | 0 => 0
  | i + 1 => coT f c n i + rcT (f i) (c i) n
theorem rc_bd {zs cs : List Int} {n : Nat} (h : ∀ i, i < n → 0 ≤ zs.getD i 0 ∧ zs.getD i 0 ≤ 40) (g : ∀ i, i < n → 0 ≤ cs.getD i 0 ∧ cs.getD i 0 ≤ 99) : ∀ k, k ≤ n → 0 ≤ rcT zs cs k ∧ rcT zs cs k ≤ ((k * 3960 : Nat) : Int)
  | 0, _ => by simp [rcT]
  | k + 1, hk => by
    have a := rc_bd h g k (by omega)
    have b := h k (by omega)
    have c := g k (by omega)
    have e0 : 0 ≤ zs.getD k 0 * cs.getD k 0 := Int.mul_nonneg b.1 c.1
    have e1 : zs.getD k 0 * cs.getD k 0 ≤ 40 * 99 := Int.mul_le_mul b.2 c.2 c.1 (by omega)
    simp only [rcT]; omega
theorem co_bd {f c : Nat → List Int} {n : Nat} (hn : n ≤ 8) : ∀ i, (∀ j, j < i → ∀ k, k < n → 0 ≤ (f j).getD k 0 ∧ (f j).getD k 0 ≤ 40) → (∀ j, j < i → ∀ k, k < n → 0 ≤ (c j).getD k 0 ∧ (c j).getD k 0 ≤ 99) → 0 ≤ coT f c n i ∧ coT f c n i ≤ ((i * 31680 : Nat) : Int)
  | 0, _, _ => by simp [coT]
  | i + 1, h, g => by
    have a := co_bd hn i (fun j hj => h j (by omega)) (fun j hj => g j (by omega))
    have b := rc_bd (h i (by omega)) (g i (by omega)) n (Nat.le_refl _)
    simp only [coT]; omega
/-- Potentials. -/
def Pot (us ws : List Int) (R : Nat) (c : Nat → List Int) (n : Nat) : Prop := ∀ i, i < R → ∀ k, k < n → us.getD i 0 + ws.getD k 0 ≤ (c i).getD k 0
noncomputable def potB (us ws : List Int) (R : Nat) (c : Nat → List Int) (n : Nat) : Bool := prB (Pot us ws R c n)
theorem potB_yes {us ws : List Int} {R n : Nat} {c : Nat → List Int} (h : Pot us ws R c n) : potB us ws R c n = true := prB_yes h
theorem potB_no {us ws : List Int} {R n : Nat} {c : Nat → List Int} (h : ¬ Pot us ws R c n) : potB us ws R c n = false := prB_no h
end Go.Proofs.Ytligidmkhbcpmab
