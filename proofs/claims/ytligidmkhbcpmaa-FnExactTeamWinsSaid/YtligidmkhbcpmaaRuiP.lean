/- Ruin, told by numbers: sums of products of powers, what is cut and what is not. No program is spoken of here. -/
import Derived.Test.YtligidmkhbcpmaaFracP
namespace Go.Proofs.Ytligidmkhbcpmaa
set_option linter.unusedVariables false
/-- The sum of the first j products of powers whose exponents have the sum k - 1. -/
def tsN (a b k : Nat) : Nat → Nat
  | 0 => 0
  | j + 1 => tsN a b k j + a ^ j * b ^ (k - 1 - j)
theorem ts_tel {a b k : Nat} : ∀ j, j ≤ k → a * tsN a b k j + b ^ k = b * tsN a b k j + a ^ j * b ^ (k - j)
  | 0, _ => by simp [tsN]
  | j + 1, h => by
    have ih := ts_tel (a := a) (b := b) (k := k) j (by omega)
    have e1 : b ^ (k - j) = b ^ (k - 1 - j) * b := by rw [← Nat.pow_succ]; congr 1; omega
    rw [e1] at ih
    rw [tsN, show k - (j + 1) = k - 1 - j by omega, Nat.mul_add, Nat.mul_add, Nat.pow_succ]
    generalize a ^ j = x at *
    generalize b ^ (k - 1 - j) = y at *
    have h1 : a * (x * y) = x * a * y := by ac_rfl
    have h2 : b * (x * y) = x * (y * b) := by ac_rfl
    omega
theorem pow20 {a : Nat} (h : a ≤ 20) (k : Nat) : a ^ k ≤ 20 ^ k := Nat.pow_le_pow_left h k
theorem ts_bd {a b k : Nat} (ha : a ≤ 20) (hb : b ≤ 20) : ∀ j, j ≤ k → tsN a b k j ≤ j * 20 ^ (k - 1)
  | 0, _ => by simp [tsN]
  | j + 1, h => by
    have ih := ts_bd (k := k) ha hb j (by omega)
    have h1 : a ^ j * b ^ (k - 1 - j) ≤ 20 ^ j * 20 ^ (k - 1 - j) := Nat.mul_le_mul (pow20 ha _) (pow20 hb _)
    rw [← Nat.pow_add, show j + (k - 1 - j) = k - 1 by omega] at h1
    rw [tsN, Nat.succ_mul]
    omega
theorem ts_pos {a b k : Nat} (ha : 1 ≤ a) (hb : 1 ≤ b) (hk : 1 ≤ k) : 1 ≤ tsN a b k k := by
  obtain ⟨j, rfl⟩ : ∃ j, k = j + 1 := ⟨k - 1, by omega⟩
  rw [tsN]
  have := Nat.mul_pos (Nat.pow_pos (n := j) ha) (Nat.pow_pos (n := j + 1 - 1 - j) hb)
  omega
theorem pow_top : ∀ k, k < 13 → 20 ^ k ≤ 4096000000000000 := by decide
theorem pow_bd {a k : Nat} (ha : a ≤ 20) (hk : k ≤ 12) : a ^ k ≤ 4096000000000000 := Nat.le_trans (pow20 ha k) (pow_top k (by omega))
theorem ts_top : ∀ k, k < 13 → k * 20 ^ (k - 1) ≤ 2457600000000000 := by decide
theorem ts_bd12 {a b k j : Nat} (ha : a ≤ 20) (hb : b ≤ 20) (hk : k ≤ 12) (hj : j ≤ k) : tsN a b k j ≤ 2457600000000000 := by
  have h1 := ts_bd (k := k) ha hb j hj
  have h2 : j * 20 ^ (k - 1) ≤ k * 20 ^ (k - 1) := Nat.mul_le_mul_right _ hj
  have h3 := ts_top k (by omega)
  omega
/-- The numerator of the model. -/
def rtN (a b i n : Nat) : Nat := a ^ (n - i) * tsN a b i i
theorem rt_top : ∀ n, n < 13 → ∀ i, i < 13 → i ≤ n → 20 ^ (n - i) * (i * 20 ^ (i - 1)) ≤ 2457600000000000 := by decide +kernel
theorem rtN_bd {a b i n : Nat} (ha : a ≤ 20) (hb : b ≤ 20) (hn : n ≤ 12) (hi : i ≤ n) : rtN a b i n ≤ 2457600000000000 :=
  Nat.le_trans (Nat.mul_le_mul (pow20 ha _) (ts_bd ha hb i (Nat.le_refl i))) (rt_top n (by omega) i (by omega) hi)
/-- The numbers of the program. -/
def ipT (a b i n : Nat) : Int := (a ^ (n - i) : Nat) * (((a ^ i : Nat) : Int) - (b ^ i : Nat))
def ipB (a b n : Nat) : Int := ((a ^ n : Nat) : Int) - (b ^ n : Nat)
theorem ipB_eq (a b n : Nat) : ipB a b n = ((a : Int) - b) * (tsN a b n n : Nat) := by
  have h := ts_tel (a := a) (b := b) (k := n) n (Nat.le_refl n)
  rw [Nat.sub_self, Nat.pow_zero, Nat.mul_one] at h
  unfold ipB
  have h2 : ((a * tsN a b n n : Nat) : Int) + (b ^ n : Nat) = (b * tsN a b n n : Nat) + (a ^ n : Nat) := by omega
  rw [Int.sub_mul, ← Int.natCast_mul, ← Int.natCast_mul]
  omega
theorem ipT_eq (a b i n : Nat) : ipT a b i n = ((a : Int) - b) * (rtN a b i n : Nat) := by
  unfold ipT rtN
  have h := ipB_eq a b i
  unfold ipB at h
  rw [h, Int.natCast_mul, Int.mul_left_comm]
theorem ipT_bd {a b i n : Nat} (ha : 1 ≤ a ∧ a ≤ 20) (hb : 1 ≤ b ∧ b ≤ 20) (hn : n ≤ 12) (hi : i ≤ n) : (ipT a b i n).natAbs ≤ 4096000000000000 := by
  unfold ipT
  rw [Int.natAbs_mul]
  have h1 := pow20 ha.2 i
  have h2 := pow20 hb.2 i
  have h3 : ((((a ^ i : Nat) : Int) - (b ^ i : Nat)).natAbs) ≤ 20 ^ i := by omega
  have h4 : (((a ^ (n - i) : Nat) : Int).natAbs) ≤ 20 ^ (n - i) := by rw [Int.natAbs_natCast]; exact pow20 ha.2 _
  refine Nat.le_trans (Nat.mul_le_mul h4 h3) ?_
  rw [← Nat.pow_add, show n - i + i = n by omega]
  exact pow_top n (by omega)
theorem ipB_bd {a b n : Nat} (ha : a ≤ 20) (hb : b ≤ 20) (hn : n ≤ 12) : (ipB a b n).natAbs ≤ 4096000000000000 := by
  unfold ipB
  have h1 := pow_bd ha hn
  have h2 := pow_bd hb hn
  omega
/-- Lowest terms of products with the same factor. -/
theorem cut_scale {c x y : Int} (hc : 0 < c) (hy : 0 < y) : cutN (c * x) (c * y) = cutN x y ∧ cutD (c * x) (c * y) = cutD x y := by
  refine cut_unique (Int.mul_pos hc hy) (cutD_pos hy) (cut_gcd (by omega)) ?_
  have h := cut_cross x y
  rw [Int.mul_assoc, ← h, Int.mul_left_comm]
/-- The chance, in lowest terms. -/
def rcN (a b i n : Nat) : Int := if a = b then cutN i n else cutN (rtN a b i n : Nat) (tsN a b n n : Nat)
def rcD (a b i n : Nat) : Int := if a = b then cutD i n else cutD (rtN a b i n : Nat) (tsN a b n n : Nat)
theorem rc_pos {a b i n : Nat} (h : b < a) (hb : 1 ≤ b) (hn : 1 ≤ n) : cutN (ipT a b i n) (ipB a b n) = rcN a b i n ∧ cutD (ipT a b i n) (ipB a b n) = rcD a b i n ∧ 0 < ipB a b n := by
  have h1 := ts_pos (a := a) (b := b) (by omega) hb hn
  have hc : (0 : Int) < (a : Int) - b := by omega
  have h2 := cut_scale (x := (rtN a b i n : Nat)) (y := (tsN a b n n : Nat)) hc (by omega)
  unfold rcN rcD
  rw [if_neg (by omega), if_neg (by omega), ipT_eq, ipB_eq]
  exact ⟨h2.1, h2.2, Int.mul_pos hc (by omega)⟩
theorem rc_neg {a b i n : Nat} (h : a < b) (ha : 1 ≤ a) (hn : 1 ≤ n) : cutN (-ipT a b i n) (-ipB a b n) = rcN a b i n ∧ cutD (-ipT a b i n) (-ipB a b n) = rcD a b i n ∧ ipB a b n < 0 := by
  have h1 := ts_pos (a := a) (b := b) ha (by omega) hn
  have hc : (0 : Int) < (b : Int) - a := by omega
  have h2 := cut_scale (x := (rtN a b i n : Nat)) (y := (tsN a b n n : Nat)) hc (by omega)
  have e1 : -ipT a b i n = ((b : Int) - a) * (rtN a b i n : Nat) := by rw [ipT_eq, ← Int.neg_mul]; congr 1; omega
  have e2 : -ipB a b n = ((b : Int) - a) * (tsN a b n n : Nat) := by rw [ipB_eq, ← Int.neg_mul]; congr 1; omega
  have e3 : (0 : Int) < ((b : Int) - a) * (tsN a b n n : Nat) := Int.mul_pos hc (by omega)
  unfold rcN rcD
  rw [if_neg (by omega), if_neg (by omega), e1, e2]
  exact ⟨h2.1, h2.2, by omega⟩
/-- The mean, before it is cut: numbers of the model (positive below). -/
def rmT (a b i n : Nat) : Int := ((a : Int) + b) * (i * rcD a b i n - n * rcN a b i n)
def rmB (a b i n : Nat) : Int := ((b : Int) - a) * rcD a b i n
def rmN' (a b i n : Nat) : Int := if a < b then rmT a b i n else -rmT a b i n
def rmD' (a b i n : Nat) : Int := if a < b then rmB a b i n else -rmB a b i n
theorem rcD_pos {a b i n : Nat} (ha : 1 ≤ a) (hb : 1 ≤ b) (hn : 1 ≤ n) : 0 < rcD a b i n := by
  unfold rcD
  split
  · exact cutD_pos (by omega)
  · have := ts_pos ha hb hn
    exact cutD_pos (by omega)
theorem rmD'_pos {a b i n : Nat} (hab : a ≠ b) (ha : 1 ≤ a) (hb : 1 ≤ b) (hn : 1 ≤ n) : 0 < rmD' a b i n := by
  have h := rcD_pos (i := i) ha hb hn
  unfold rmD' rmB
  split
  · exact Int.mul_pos (by omega) h
  · have := Int.mul_pos (show (0 : Int) < (a : Int) - b by omega) h
    have e : -(((b : Int) - a) * rcD a b i n) = ((a : Int) - b) * rcD a b i n := by rw [← Int.neg_mul]; congr 1; omega
    rw [e]; exact this
/-- What the program cuts is the same. -/
def imT (a b i n : Nat) : Int := ((a : Int) + b) * (i * ipB a b n - n * ipT a b i n)
def imB (a b n : Nat) : Int := ((b : Int) - a) * ipB a b n
theorem rm_eq {a b i n : Nat} (hab : a ≠ b) (ha : 1 ≤ a) (hb : 1 ≤ b) (hn : 1 ≤ n) :
    imB a b n < 0 ∧ cutN (-imT a b i n) (-imB a b n) = cutN (rmN' a b i n) (rmD' a b i n) ∧ cutD (-imT a b i n) (-imB a b n) = cutD (rmN' a b i n) (rmD' a b i n) := by
  have hp := rmD'_pos (i := i) hab ha hb hn
  have h1 := ts_pos ha hb hn
  have hg := gI_pos (a := ((rtN a b i n : Nat) : Int)) (b := ((tsN a b n n : Nat) : Int)) (by omega)
  have eN : rcN a b i n * gI (rtN a b i n : Nat) (tsN a b n n : Nat) = (rtN a b i n : Nat) := by unfold rcN; rw [if_neg hab]; exact cutN_mul _ _
  have eD : rcD a b i n * gI (rtN a b i n : Nat) (tsN a b n n : Nat) = (tsN a b n n : Nat) := by unfold rcD; rw [if_neg hab]; exact cutD_mul _ _
  generalize gI (rtN a b i n : Nat) (tsN a b n n : Nat) = g at *
  have e1 : imT a b i n = (((a : Int) - b) * g) * rmT a b i n := by
    unfold imT rmT
    rw [ipT_eq, ipB_eq, ← eN, ← eD]
    generalize rcN a b i n = P
    generalize rcD a b i n = Q
    generalize (a : Int) - b = c
    rw [Int.mul_left_comm (c * g), Int.mul_sub (c * g)]
    congr 1
    congr 1 <;> ac_rfl
  have e2 : imB a b n = (((a : Int) - b) * g) * rmB a b i n := by
    unfold imB rmB
    rw [ipB_eq, ← eD]
    ac_rfl
  have key : ∃ c : Int, 0 < c ∧ -imT a b i n = c * rmN' a b i n ∧ -imB a b n = c * rmD' a b i n := by
    rw [e1, e2]
    unfold rmN' rmD'
    by_cases h : a < b
    · refine ⟨((b : Int) - a) * g, Int.mul_pos (by omega) hg, ?_, ?_⟩
      · rw [if_pos h, ← Int.neg_mul, ← Int.neg_mul]; congr 2; omega
      · rw [if_pos h, ← Int.neg_mul, ← Int.neg_mul]; congr 2; omega
    · refine ⟨((a : Int) - b) * g, Int.mul_pos (by omega) hg, ?_, ?_⟩
      · rw [if_neg h, Int.mul_neg]
      · rw [if_neg h, Int.mul_neg]
  obtain ⟨c, hc, k1, k2⟩ := key
  have h3 := cut_scale (x := rmN' a b i n) hc hp
  have h4 := Int.mul_pos hc hp
  rw [k1, k2]
  exact ⟨by omega, h3⟩
theorem natAbs_sub_le (x y : Int) : (x - y).natAbs ≤ x.natAbs + y.natAbs := by omega
theorem imT_bd {a b i n : Nat} (ha : 1 ≤ a ∧ a ≤ 20) (hb : 1 ≤ b ∧ b ≤ 20) (hn : n ≤ 12) (hi : i ≤ n) :
    ((i : Int) * ipB a b n).natAbs ≤ 49152000000000000 ∧ ((n : Int) * ipT a b i n).natAbs ≤ 49152000000000000 ∧ ((i : Int) * ipB a b n - n * ipT a b i n).natAbs ≤ 98304000000000000 ∧ (imT a b i n).natAbs ≤ 3932160000000000000 := by
  have h1 := ipB_bd ha.2 hb.2 hn
  have h2 := ipT_bd ha hb hn hi
  have k1 : ((i : Int) * ipB a b n).natAbs ≤ 12 * 4096000000000000 := by rw [Int.natAbs_mul]; exact Nat.mul_le_mul (by omega) h1
  have k2 : ((n : Int) * ipT a b i n).natAbs ≤ 12 * 4096000000000000 := by rw [Int.natAbs_mul]; exact Nat.mul_le_mul (by omega) h2
  have k3 : ((i : Int) * ipB a b n - n * ipT a b i n).natAbs ≤ 98304000000000000 := Nat.le_trans (natAbs_sub_le _ _) (by omega)
  refine ⟨by omega, by omega, k3, ?_⟩
  unfold imT
  rw [Int.natAbs_mul]
  refine Nat.le_trans (Nat.mul_le_mul (show ((a : Int) + b).natAbs ≤ 40 by omega) k3) (by omega)
theorem imB_bd {a b n : Nat} (ha : 1 ≤ a ∧ a ≤ 20) (hb : 1 ≤ b ∧ b ≤ 20) (hn : n ≤ 12) : (imB a b n).natAbs ≤ 77824000000000000 := by
  unfold imB
  rw [Int.natAbs_mul]
  refine Nat.le_trans (Nat.mul_le_mul (show ((b : Int) - a).natAbs ≤ 19 by omega) (ipB_bd ha.2 hb.2 hn)) (by omega)
theorem rc_bd {a b i n : Nat} (hab : a ≠ b) (ha : 1 ≤ a ∧ a ≤ 20) (hb : 1 ≤ b ∧ b ≤ 20) (hn : 1 ≤ n ∧ n ≤ 12) (hi : i ≤ n) :
    (rcN a b i n).natAbs ≤ 2457600000000000 ∧ 1 ≤ rcD a b i n ∧ rcD a b i n ≤ 2457600000000000 := by
  have h1 := rtN_bd (i := i) ha.2 hb.2 hn.2 hi
  have h2 := ts_bd12 (k := n) (j := n) ha.2 hb.2 hn.2 (Nat.le_refl n)
  have h3 := ts_pos ha.1 hb.1 hn.1
  have h4 := rcD_pos (i := i) ha.1 hb.1 hn.1
  refine ⟨?_, by omega, ?_⟩
  · unfold rcN
    rw [if_neg hab]
    have := abs_cutN (a := ((rtN a b i n : Nat) : Int)) (b := ((tsN a b n n : Nat) : Int)) 2457600000000000 (by omega) (by omega)
    omega
  · unfold rcD
    rw [if_neg hab]
    have := cutD_le (a := ((rtN a b i n : Nat) : Int)) (b := ((tsN a b n n : Nat) : Int)) (by omega)
    omega
theorem rmT_bd {a b i n : Nat} (hab : a ≠ b) (ha : 1 ≤ a ∧ a ≤ 20) (hb : 1 ≤ b ∧ b ≤ 20) (hn : 1 ≤ n ∧ n ≤ 12) (hi : i ≤ n) :
    ((i : Int) * rcD a b i n).natAbs ≤ 29491200000000000 ∧ ((n : Int) * rcN a b i n).natAbs ≤ 29491200000000000 ∧ ((i : Int) * rcD a b i n - n * rcN a b i n).natAbs ≤ 58982400000000000 ∧ (rmT a b i n).natAbs ≤ 2359296000000000000 ∧ (rmB a b i n).natAbs ≤ 46694400000000000 := by
  obtain ⟨h1, h2, h3⟩ := rc_bd hab ha hb hn hi
  have k1 : ((i : Int) * rcD a b i n).natAbs ≤ 12 * 2457600000000000 := by rw [Int.natAbs_mul]; exact Nat.mul_le_mul (by omega) (by omega)
  have k2 : ((n : Int) * rcN a b i n).natAbs ≤ 12 * 2457600000000000 := by rw [Int.natAbs_mul]; exact Nat.mul_le_mul (by omega) h1
  have k3 : ((i : Int) * rcD a b i n - n * rcN a b i n).natAbs ≤ 58982400000000000 := Nat.le_trans (natAbs_sub_le _ _) (by omega)
  refine ⟨by omega, by omega, k3, ?_, ?_⟩
  · unfold rmT
    rw [Int.natAbs_mul]
    exact Nat.le_trans (Nat.mul_le_mul (show ((a : Int) + b).natAbs ≤ 40 by omega) k3) (by omega)
  · unfold rmB
    rw [Int.natAbs_mul]
    exact Nat.le_trans (Nat.mul_le_mul (show ((b : Int) - a).natAbs ≤ 19 by omega) (show (rcD a b i n).natAbs ≤ 2457600000000000 by omega)) (by omega)
end Go.Proofs.Ytligidmkhbcpmaa
