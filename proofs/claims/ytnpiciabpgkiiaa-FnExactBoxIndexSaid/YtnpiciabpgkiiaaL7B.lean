/- The index of a box, told twice: as the greatest quotient, and by the first place from above where one is enough. No program is spoken of here. -/
import Derived.Test.YtnpiciabpgkiiaaL7P
namespace Go.Proofs.Ytnpiciabpgkiiaa
set_option linter.unusedVariables false
def bxN (zs : List Int) (k : Nat) : Int := smT zs zs.length - smT zs k
def bxS (zs : List Int) (k : Nat) : Int := moT zs zs.length - moT zs k
theorem bxN_step (zs : List Int) (k : Nat) : bxN zs k = bxN zs (k + 1) + zs.getD k 0 := by unfold bxN; simp only [smT]; omega
theorem bxS_step (zs : List Int) (k : Nat) : bxS zs k = bxS zs (k + 1) + (k : Int) * zs.getD k 0 := by unfold bxS; simp only [moT]; omega
theorem bxN_top (zs : List Int) : bxN zs zs.length = 0 := by unfold bxN; omega
theorem bxS_top (zs : List Int) : bxS zs zs.length = 0 := by unfold bxS; omega
theorem cut_lt {a b c d : Int} (hb : 0 < b) (hd : 0 < d) : cutN a b * cutD c d < cutN c d * cutD a b ↔ a * d < c * b := by
  have g1 := gI_pos (a := a) (b := b) (by omega)
  have g2 := gI_pos (a := c) (b := d) (by omega)
  have e1 := cutN_mul a b
  have e2 := cutD_mul a b
  have e3 := cutN_mul c d
  have e4 := cutD_mul c d
  have gp := Int.mul_pos g1 g2
  have h1 : a * d = (cutN a b * cutD c d) * (gI a b * gI c d) := by
    have : a * d = (cutN a b * gI a b) * (cutD c d * gI c d) := by rw [e1, e4]
    rw [this]; ac_rfl
  have h2 : c * b = (cutN c d * cutD a b) * (gI a b * gI c d) := by
    have : c * b = (cutN c d * gI c d) * (cutD a b * gI a b) := by rw [e3, e2]
    rw [this]; ac_rfl
  rw [h1, h2]
  constructor
  · intro h; exact Int.mul_lt_mul_of_pos_right h gp
  · intro h; exact Int.lt_of_mul_lt_mul_right h (Int.le_of_lt gp)
/-- The greatest quotient over the last j places. -/
def bxI (zs : List Int) (nd : Int) : Nat → Int × Int
  | 0 => (-1000000000, 1)
  | j + 1 =>
    let k := zs.length - 1 - j
    let p := bxI zs nd j
    if 0 < bxN zs k then
      (if p.1 * cutD (bxS zs k - nd) (bxN zs k) < cutN (bxS zs k - nd) (bxN zs k) * p.2 then (cutN (bxS zs k - nd) (bxN zs k), cutD (bxS zs k - nd) (bxN zs k)) else p)
    else p
def bxZ (zs : List Int) (nd : Int) (k : Nat) : Int × Int := (cutN (bxS zs k - nd) (bxN zs k), cutD (bxS zs k - nd) (bxN zs k))
/-- The first place from above where the values are enough. -/
def bxR (zs : List Int) (nd : Int) : Nat → Int × Int
  | 0 => bxZ zs nd 0
  | k + 1 => if 0 < bxN zs (k + 1) ∧ nd ≤ bxS zs (k + 1) - (k : Int) * bxN zs (k + 1) then bxZ zs nd (k + 1) else bxR zs nd k
theorem bxN_nonneg {zs : List Int} (p : Law zs) : ∀ j k, j + k = zs.length → 0 ≤ bxN zs k ∧ bxN zs k ≤ 5 * (j : Int)
  | 0, k, h => by rw [show k = zs.length by omega, bxN_top]; omega
  | j + 1, k, h => by
    have a := bxN_nonneg p j (k + 1) (by omega)
    have b := p.bd k (by omega)
    rw [bxN_step]; omega
theorem bxS_nonneg {zs : List Int} (p : Law zs) : ∀ j k, j + k = zs.length → 0 ≤ bxS zs k ∧ bxS zs k ≤ 25 * (j : Int)
  | 0, k, h => by rw [show k = zs.length by omega, bxS_top]; omega
  | j + 1, k, h => by
    have a := bxS_nonneg p j (k + 1) (by omega)
    have b := p.bd k (by omega)
    have n5 := p.n5
    have p0 : 0 ≤ (k : Int) * zs.getD k 0 := Int.mul_nonneg (by omega) b.1
    have p1 : (k : Int) * zs.getD k 0 ≤ 5 * 5 := Int.mul_le_mul (by omega) b.2 b.1 (by omega)
    rw [bxS_step]; omega
theorem bxN_at {zs : List Int} (p : Law zs) {k : Nat} (hk : k ≤ zs.length) : 0 ≤ bxN zs k ∧ bxN zs k ≤ 25 := by
  have := bxN_nonneg p (zs.length - k) k (by omega)
  have := p.n5
  omega
theorem bxS_at {zs : List Int} (p : Law zs) {k : Nat} (hk : k ≤ zs.length) : 0 ≤ bxS zs k ∧ bxS zs k ≤ 125 := by
  have := bxS_nonneg p (zs.length - k) k (by omega)
  have := p.n5
  omega
theorem bxZ_bd {zs : List Int} {nd : Int} (p : Law zs) (h : 0 ≤ nd ∧ nd ≤ 500) {k : Nat} (hk : k ≤ zs.length) (hN : 0 < bxN zs k) :
    -500 ≤ (bxZ zs nd k).1 ∧ (bxZ zs nd k).1 ≤ 500 ∧ 1 ≤ (bxZ zs nd k).2 ∧ (bxZ zs nd k).2 ≤ 25 := by
  have a := bxS_at p hk
  have b := bxN_at p hk
  have c := abs_cutN (a := bxS zs k - nd) (b := bxN zs k) 500 (by omega) (by omega)
  have d := cutD_pos (a := bxS zs k - nd) hN
  have e := cutD_le (a := bxS zs k - nd) hN
  unfold bxZ
  exact ⟨c.1, c.2, by show 1 ≤ cutD _ _; omega, by show cutD _ _ ≤ 25; omega⟩
theorem init_lt {zs : List Int} {nd : Int} (p : Law zs) (h : 0 ≤ nd ∧ nd ≤ 500) {k : Nat} (hk : k ≤ zs.length) (hN : 0 < bxN zs k) : (-1000000000) * (bxZ zs nd k).2 < (bxZ zs nd k).1 * 1 := by
  have := bxZ_bd p h hk hN
  omega
theorem bxI_step {zs : List Int} {nd : Int} {k : Nat} (hk : k < zs.length) :
    bxI zs nd (zs.length - k) = if 0 < bxN zs k then (if (bxI zs nd (zs.length - (k + 1))).1 * (bxZ zs nd k).2 < (bxZ zs nd k).1 * (bxI zs nd (zs.length - (k + 1))).2 then bxZ zs nd k else bxI zs nd (zs.length - (k + 1))) else bxI zs nd (zs.length - (k + 1)) := by
  rw [show zs.length - k = (zs.length - (k + 1)) + 1 by omega]
  simp only [bxI]
  rw [show zs.length - 1 - (zs.length - (k + 1)) = k by omega]
  rfl
/-- From the place on where the values are enough the quotient does not grow. -/
theorem bx_after {zs : List Int} {nd : Int} (p : Law zs) {K : Nat} (hK : K < zs.length) (hN : 0 < bxN zs K) (h1 : 1 ≤ K) (hC : nd ≤ bxS zs K - ((K : Int) - 1) * bxN zs K) :
    ∀ j k, j + k = K → 0 < bxN zs k ∧ (bxS zs k - nd) * bxN zs K ≤ (bxS zs K - nd) * bxN zs k
  | 0, k, h => by rw [show k = K by omega]; exact ⟨hN, by omega⟩
  | j + 1, k, h => by
    obtain ⟨a, b⟩ := bx_after p hK hN h1 hC j (k + 1) (by omega)
    have c := p.bd k (by omega)
    rw [bxN_step zs k, bxS_step zs k]
    refine ⟨by omega, ?_⟩
    have q1 : (k : Int) * bxN zs K ≤ ((K : Int) - 1) * bxN zs K := Int.mul_le_mul_of_nonneg_right (by omega) (by omega)
    have q2 : (k : Int) * bxN zs K ≤ bxS zs K - nd := by omega
    have q3 : ((k : Int) * bxN zs K) * zs.getD k 0 ≤ (bxS zs K - nd) * zs.getD k 0 := Int.mul_le_mul_of_nonneg_right q2 c.1
    have e1 : (bxS zs (k + 1) + (k : Int) * zs.getD k 0 - nd) * bxN zs K = (bxS zs (k + 1) - nd) * bxN zs K + ((k : Int) * bxN zs K) * zs.getD k 0 := by
      rw [show bxS zs (k + 1) + (k : Int) * zs.getD k 0 - nd = (bxS zs (k + 1) - nd) + (k : Int) * zs.getD k 0 by omega, Int.add_mul]
      congr 1
      ac_rfl
    have e2 : (bxS zs K - nd) * (bxN zs (k + 1) + zs.getD k 0) = (bxS zs K - nd) * bxN zs (k + 1) + (bxS zs K - nd) * zs.getD k 0 := Int.mul_add _ _ _
    rw [e1, e2]
    omega
theorem bx_stay {zs : List Int} {nd : Int} (p : Law zs) {K : Nat} (hK : K < zs.length) (hN : 0 < bxN zs K) (h1 : 1 ≤ K) (hC : nd ≤ bxS zs K - ((K : Int) - 1) * bxN zs K)
    (hs : bxI zs nd (zs.length - K) = bxZ zs nd K) : ∀ j k, j + k = K → bxI zs nd (zs.length - k) = bxZ zs nd K
  | 0, k, h => by rw [show k = K by omega]; exact hs
  | j + 1, k, h => by
    have ih := bx_stay p hK hN h1 hC hs j (k + 1) (by omega)
    obtain ⟨a, b⟩ := bx_after p hK hN h1 hC (j + 1) k (by omega)
    rw [bxI_step (by omega), if_pos a, ih, if_neg]
    intro hlt
    have := (cut_lt (a := bxS zs K - nd) (c := bxS zs k - nd) hN a).1 hlt
    omega
/-- Before that place it never falls. -/
theorem bx_up {zs : List Int} {nd : Int} (p : Law zs) (h : 0 ≤ nd ∧ nd ≤ 500) {k : Nat} (hk : k < zs.length)
    (hs : bxI zs nd (zs.length - (k + 1)) = if 0 < bxN zs (k + 1) then bxZ zs nd (k + 1) else (-1000000000, 1))
    (hC : 0 < bxN zs (k + 1) → bxS zs (k + 1) - nd < (k : Int) * bxN zs (k + 1)) :
    bxI zs nd (zs.length - k) = if 0 < bxN zs k then bxZ zs nd k else (-1000000000, 1) := by
  have c := p.bd k hk
  have n1 := bxN_at p (k := k + 1) (by omega)
  have sn := bxN_step zs k
  have ss := bxS_step zs k
  rw [bxI_step hk, hs]
  by_cases hN1 : 0 < bxN zs (k + 1)
  · have hN : 0 < bxN zs k := by omega
    rw [if_pos hN1, if_pos hN, if_pos hN]
    by_cases hw : zs.getD k 0 = 0
    · rw [hw, Int.mul_zero, Int.add_zero] at ss
      rw [hw, Int.add_zero] at sn
      have e : bxZ zs nd k = bxZ zs nd (k + 1) := by unfold bxZ; rw [ss, sn]
      rw [e]
      split <;> rfl
    · rw [if_pos]
      refine (cut_lt (a := bxS zs (k + 1) - nd) (c := bxS zs k - nd) hN1 hN).2 ?_
      have hC := hC hN1
      have hw2 : 0 < zs.getD k 0 := by omega
      have q := Int.mul_lt_mul_of_pos_right hC hw2
      rw [sn, ss, show bxS zs (k + 1) + (k : Int) * zs.getD k 0 - nd = (bxS zs (k + 1) - nd) + (k : Int) * zs.getD k 0 by omega, Int.add_mul, Int.mul_add]
      have e : (k : Int) * zs.getD k 0 * bxN zs (k + 1) = (k : Int) * bxN zs (k + 1) * zs.getD k 0 := by ac_rfl
      rw [e]
      omega
  · rw [if_neg hN1]
    by_cases hN : 0 < bxN zs k
    · rw [if_pos hN, if_pos hN, if_pos (init_lt p h (by omega) hN)]
    · rw [if_neg hN, if_neg hN]
theorem bx_same {zs : List Int} {nd : Int} (p : Law zs) (h : 0 ≤ nd ∧ nd ≤ 500) : ∀ k, k < zs.length →
    bxI zs nd (zs.length - (k + 1)) = (if 0 < bxN zs (k + 1) then bxZ zs nd (k + 1) else (-1000000000, 1)) →
    (0 < bxN zs (k + 1) → bxS zs (k + 1) - nd < (k : Int) * bxN zs (k + 1)) → bxI zs nd zs.length = bxR zs nd k
  | 0, hk, hs, hC => by
    have := bx_up p h hk hs hC
    rw [Nat.sub_zero] at this
    rw [this, if_pos]
    · rfl
    · have := p.pos
      unfold bxN
      simp only [smT]; omega
  | k + 1, hk, hs, hC => by
    have st := bx_up p h hk hs hC
    unfold bxR
    by_cases c : 0 < bxN zs (k + 1) ∧ nd ≤ bxS zs (k + 1) - (k : Int) * bxN zs (k + 1)
    · rw [if_pos c]
      rw [if_pos c.1] at st
      have := bx_stay p hk c.1 (by omega) (by rw [show ((k + 1 : Nat) : Int) - 1 = (k : Int) by omega]; exact c.2) st (k + 1) 0 (by omega)
      rw [Nat.sub_zero] at this
      exact this
    · rw [if_neg c]
      exact bx_same p h k (by omega) st (fun hN => by
        have : ¬ nd ≤ bxS zs (k + 1) - (k : Int) * bxN zs (k + 1) := fun h' => c ⟨hN, h'⟩
        omega)
theorem bxZ_fr {zs : List Int} {nd : Int} (p : Law zs) (h : 0 ≤ nd ∧ nd ≤ 500) {k : Nat} (hk : k ≤ zs.length) (hN : 0 < bxN zs k) : isFr (bxZ zs nd k).1 (bxZ zs nd k).2 = true := by
  have b := bxZ_bd p h hk hN
  have e : isFr (bxZ zs nd k).1 (bxZ zs nd k).2 = inB (bxZ zs nd k).1 (bxZ zs nd k).2 := isFr_cut hN
  rw [e]
  unfold inB
  rw [decide_eq_true_iff]
  omega
theorem bx_init_fr : isFr (-1000000000) 1 = true := by decide +kernel
theorem bxI_fr {zs : List Int} {nd : Int} (p : Law zs) (h : 0 ≤ nd ∧ nd ≤ 500) : ∀ j, j ≤ zs.length → isFr (bxI zs nd j).1 (bxI zs nd j).2 = true
  | 0, _ => bx_init_fr
  | j + 1, hj => by
    have ih := bxI_fr p h j (by omega)
    have e := bxI_step (zs := zs) (nd := nd) (k := zs.length - (j + 1)) (by omega)
    rw [show zs.length - (zs.length - (j + 1)) = j + 1 by omega, show zs.length - (zs.length - (j + 1) + 1) = j by omega] at e
    rw [e]
    split
    · next hN =>
      split
      · exact bxZ_fr p h (by omega) hN
      · exact ih
    · exact ih
theorem bxN_zero {zs : List Int} (p : Law zs) : 0 < bxN zs 0 := by
  have := p.pos
  unfold bxN; simp only [smT]; omega
theorem bxR_fr {zs : List Int} {nd : Int} (p : Law zs) (h : 0 ≤ nd ∧ nd ≤ 500) : ∀ k, k < zs.length → isFr (bxR zs nd k).1 (bxR zs nd k).2 = true
  | 0, _ => bxZ_fr p h (Nat.zero_le _) (bxN_zero p)
  | k + 1, hk => by
    unfold bxR
    split
    · next hc => exact bxZ_fr p h (by omega) hc.1
    · exact bxR_fr p h k (by omega)
theorem bx_all {zs : List Int} {nd : Int} (p : Law zs) (h : 0 ≤ nd ∧ nd ≤ 500) : bxI zs nd zs.length = bxR zs nd (zs.length - 1) := by
  have n1 := p.n1
  refine bx_same p h (zs.length - 1) (by omega) ?_ ?_
  · rw [show zs.length - 1 + 1 = zs.length by omega, bxN_top, Nat.sub_self]; rfl
  · rw [show zs.length - 1 + 1 = zs.length by omega, bxN_top]; intro h; omega
end Go.Proofs.Ytnpiciabpgkiiaa
