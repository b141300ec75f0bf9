/- Plain mathematics of fractions: lowest terms, their sums and products. No program is spoken of here. -/
import Derived.WalkKit
namespace Go.Proofs.Ytligidmkhbcpmac
set_option linter.unusedVariables false
def gI (a b : Int) : Int := (Int.gcd a b : Int)
def cutN (a b : Int) : Int := a / gI a b
def cutD (a b : Int) : Int := b / gI a b
theorem gI_nonneg (a b : Int) : 0 ≤ gI a b := Int.natCast_nonneg _
theorem gI_pos {a b : Int} (h : b ≠ 0) : 0 < gI a b := by
  unfold gI
  have := Int.gcd_pos_of_ne_zero_right a h
  omega
theorem gI_dvd_l (a b : Int) : gI a b ∣ a := Int.gcd_dvd_left ..
theorem gI_dvd_r (a b : Int) : gI a b ∣ b := Int.gcd_dvd_right ..
theorem cutN_mul (a b : Int) : cutN a b * gI a b = a := Int.ediv_mul_cancel (gI_dvd_l a b)
theorem cutD_mul (a b : Int) : cutD a b * gI a b = b := Int.ediv_mul_cancel (gI_dvd_r a b)
theorem cutD_pos {a b : Int} (h : 0 < b) : 0 < cutD a b := by
  have h1 := cutD_mul a b
  have h2 := gI_pos (a := a) (b := b) (by omega)
  rcases Int.lt_or_le 0 (cutD a b) with h3 | h3
  · exact h3
  · have := Int.mul_le_mul_of_nonneg_right h3 (Int.le_of_lt h2)
    rw [h1] at this; omega
theorem cut_cross (a b : Int) : cutN a b * b = a * cutD a b := by
  have h1 := cutN_mul a b
  have h2 := cutD_mul a b
  calc cutN a b * b = cutN a b * (cutD a b * gI a b) := by rw [h2]
    _ = (cutN a b * gI a b) * cutD a b := by rw [Int.mul_comm (cutD a b), Int.mul_assoc]
    _ = a * cutD a b := by rw [h1]
theorem cut_gcd {a b : Int} (h : b ≠ 0) : gI (cutN a b) (cutD a b) = 1 := by
  have h2 := gI_pos (a := a) h
  unfold cutN cutD gI at *
  have := Int.gcd_ediv_gcd_ediv_gcd (i := a) (j := b) (by omega)
  rw [this]; rfl
theorem pos_of_mul {k x : Int} (hk : 0 < k) (h : 0 < k * x) : 0 < x := by
  rcases Int.lt_or_le 0 x with h3 | h3
  · exact h3
  · have := Int.mul_le_mul_of_nonneg_left h3 (Int.le_of_lt hk)
    rw [Int.mul_zero] at this; omega
theorem cut_unique {a b p q : Int} (hb : 0 < b) (hq : 0 < q) (hg : gI p q = 1) (h : a * q = p * b) : cutN a b = p ∧ cutD a b = q := by
  have hg' : Int.gcd p q = 1 := by unfold gI at hg; omega
  have hd : q ∣ p * b := ⟨a, by rw [← h, Int.mul_comm]⟩
  have hd2 : q ∣ b := by
    have h1 : q.natAbs ∣ p.natAbs * b.natAbs := by rw [← Int.natAbs_mul]; exact Int.natAbs_dvd_natAbs.2 hd
    have hc : Nat.Coprime q.natAbs p.natAbs := by
      rw [Nat.coprime_comm]; exact hg'
    exact Int.natAbs_dvd_natAbs.1 (hc.dvd_of_dvd_mul_left h1)
  obtain ⟨t, rfl⟩ := hd2
  have ht : 0 < t := by
    rcases Int.lt_or_le 0 t with h3 | h3
    · exact h3
    · have := Int.mul_nonneg_of_nonpos_of_nonpos (a := -q) (b := t) (by omega) h3
      rw [Int.neg_mul] at this; omega
  have ha : a = p * t := by
    have : a * q = p * t * q := by rw [h, Int.mul_assoc, Int.mul_comm q t]
    exact Int.eq_of_mul_eq_mul_right (by omega) this
  subst ha
  have hgt : gI (p * t) (q * t) = t := by
    unfold gI
    rw [Int.gcd_mul_right, hg']
    omega
  rw [Int.mul_comm q t, Int.mul_comm t q]
  unfold cutN cutD
  rw [hgt]
  exact ⟨Int.mul_ediv_cancel _ (by omega), Int.mul_ediv_cancel _ (by omega)⟩
theorem cut_self {a b : Int} (hb : 0 < b) (hg : gI a b = 1) : cutN a b = a ∧ cutD a b = b := cut_unique hb hb hg rfl
/-- The fractions: what holds of a numerator and a denominator in the bounds. -/
def inB (n d : Int) : Bool := decide (-1000000000 ≤ n ∧ n ≤ 1000000000 ∧ 1 ≤ d ∧ d ≤ 1000000)
def isFr (n d : Int) : Bool := inB n d && decide (gI n d = 1)
theorem isFr_iff (n d : Int) : isFr n d = true ↔ (-1000000000 ≤ n ∧ n ≤ 1000000000 ∧ 1 ≤ d ∧ d ≤ 1000000) ∧ gI n d = 1 := by
  unfold isFr inB; simp
theorem isFr_cut {a b : Int} (hb : 0 < b) : isFr (cutN a b) (cutD a b) = inB (cutN a b) (cutD a b) := by
  unfold isFr; rw [cut_gcd (by omega)]; simp
/-- Sums: by the least common denominator or not, the lowest terms are the same. -/
theorem add_same {n d m e : Int} (hd : 0 < d) (he : 0 < e) :
    cutN (n * (e / gI d e) + m * (d / gI d e)) (d / gI d e * e) = cutN (n * e + m * d) (d * e) ∧ cutD (n * (e / gI d e) + m * (d / gI d e)) (d / gI d e * e) = cutD (n * e + m * d) (d * e) := by
  have h1 := gI_dvd_l d e
  have h2 := gI_dvd_r d e
  have hk := gI_pos (a := d) (b := e) (by omega)
  generalize gI d e = k at *
  obtain ⟨x, rfl⟩ := h1
  obtain ⟨y, rfl⟩ := h2
  have hx : 0 < x := pos_of_mul hk hd
  have hy : 0 < y := pos_of_mul hk he
  rw [Int.mul_ediv_cancel_left _ (by omega), Int.mul_ediv_cancel_left _ (by omega)]
  have hD : 0 < (k * x) * (k * y) := Int.mul_pos hd he
  have hD2 : 0 < x * (k * y) := Int.mul_pos hx he
  refine cut_unique hD2 (cutD_pos hD) (cut_gcd (by omega)) ?_
  have hc := cut_cross (n * (k * y) + m * (k * x)) ((k * x) * (k * y))
  generalize cutN (n * (k * y) + m * (k * x)) ((k * x) * (k * y)) = N at *
  generalize cutD (n * (k * y) + m * (k * x)) ((k * x) * (k * y)) = D at *
  apply Int.eq_of_mul_eq_mul_left (a := k) (by omega)
  calc k * ((n * y + m * x) * D) = (n * (k * y) + m * (k * x)) * D := by
        rw [← Int.mul_assoc, Int.mul_add]
        congr 1
        rw [Int.mul_left_comm, Int.mul_left_comm k m]
    _ = N * (k * x * (k * y)) := hc.symm
    _ = k * (N * (x * (k * y))) := by rw [Int.mul_assoc k x, Int.mul_left_comm]
theorem gI_iff {a b : Int} : gI a b = 1 ↔ Nat.Coprime a.natAbs b.natAbs := by
  unfold gI Nat.Coprime Int.gcd; omega
theorem dvd_cutN (a b : Int) : cutN a b ∣ a := ⟨gI a b, (cutN_mul a b).symm⟩
theorem dvd_cutD (a b : Int) : cutD a b ∣ b := ⟨gI a b, (cutD_mul a b).symm⟩
theorem cop_dvd {n d x y : Int} (h : gI n d = 1) (hx : x ∣ n) (hy : y ∣ d) : Nat.Coprime x.natAbs y.natAbs :=
  Nat.Coprime.coprime_dvd_left (Int.natAbs_dvd_natAbs.2 hx) (Nat.Coprime.coprime_dvd_right (Int.natAbs_dvd_natAbs.2 hy) (gI_iff.1 h))
/-- Products: crosswise cut first or not, the lowest terms are the same. -/
theorem times_same {n d m e : Int} (hd : 0 < d) (he : 0 < e) (h1 : gI n d = 1) (h2 : gI m e = 1) :
    cutN (n * m) (d * e) = cutN n e * cutN m d ∧ cutD (n * m) (d * e) = cutD n e * cutD m d := by
  refine cut_unique (Int.mul_pos hd he) (Int.mul_pos (cutD_pos he) (cutD_pos hd)) ?_ ?_
  · rw [gI_iff, Int.natAbs_mul, Int.natAbs_mul]
    have a1 := gI_iff.1 (cut_gcd (a := n) (b := e) (by omega))
    have a2 := gI_iff.1 (cut_gcd (a := m) (b := d) (by omega))
    have a3 := cop_dvd h1 (dvd_cutN n e) (dvd_cutD m d)
    have a4 := cop_dvd h2 (dvd_cutN m d) (dvd_cutD n e)
    exact Nat.Coprime.mul_left (Nat.Coprime.mul_right a1 a3) (Nat.Coprime.mul_right a4 a2)
  · have c1 := cut_cross n e
    have c2 := cut_cross m d
    generalize cutN n e = x at *
    generalize cutN m d = y at *
    generalize cutD n e = u at *
    generalize cutD m d = v at *
    calc n * m * (u * v) = (n * u) * (m * v) := by rw [Int.mul_assoc, Int.mul_left_comm m, ← Int.mul_assoc]
      _ = (x * e) * (y * d) := by rw [c1, c2]
      _ = x * y * (d * e) := by rw [Int.mul_comm d e, Int.mul_assoc, Int.mul_left_comm e, ← Int.mul_assoc]
theorem abs_cutN {a b : Int} (M : Int) (h : -M ≤ a ∧ a ≤ M) (hM : 0 ≤ M) : -M ≤ cutN a b ∧ cutN a b ≤ M := by
  unfold cutN gI
  have h1 := Int.natAbs_ediv_le_natAbs a (Int.gcd a b : Int)
  omega
theorem cutD_le {a b : Int} (h : 0 < b) : cutD a b ≤ b := by
  unfold cutD
  exact Int.ediv_le_self _ (by omega)
/-- The lowest terms of a sum less one of both are the other one. -/
theorem sub_back {n d m e : Int} (hd : 0 < d) (he : 0 < e) (h1 : gI n d = 1) :
    cutN (cutN (n * e + m * d) (d * e) * e + -m * cutD (n * e + m * d) (d * e)) (cutD (n * e + m * d) (d * e) * e) = n ∧
    cutD (cutN (n * e + m * d) (d * e) * e + -m * cutD (n * e + m * d) (d * e)) (cutD (n * e + m * d) (d * e) * e) = d := by
  have hc := cut_cross (n * e + m * d) (d * e)
  have hD := cutD_pos (a := n * e + m * d) (Int.mul_pos hd he)
  generalize cutN (n * e + m * d) (d * e) = S at *
  generalize cutD (n * e + m * d) (d * e) = T at *
  refine cut_unique (Int.mul_pos hD he) hd h1 ?_
  have e1 : S * e * d = S * (d * e) := by rw [Int.mul_assoc, Int.mul_comm e d]
  rw [Int.add_mul, e1, hc, Int.add_mul, Int.mul_assoc n e T, Int.mul_comm e T]
  have e2 : -m * T * d = -(m * d * T) := by rw [Int.neg_mul, Int.neg_mul, Int.mul_right_comm]
  rw [e2]; omega
theorem gI_neg (a b : Int) : gI (-a) b = gI a b := by unfold gI; rw [Int.neg_gcd]
theorem gI_zero (b : Int) (h : 0 < b) : gI 0 b = b := by unfold gI; rw [Int.gcd_zero_left]; omega
end Go.Proofs.Ytligidmkhbcpmac
