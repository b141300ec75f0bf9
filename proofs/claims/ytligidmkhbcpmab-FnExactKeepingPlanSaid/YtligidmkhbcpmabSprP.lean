/- Spreads, told by lists. No program is spoken of here. -/
import Derived.Test.YtligidmkhbcpmabL7P
namespace Go.Proofs.Ytligidmkhbcpmab
set_option linter.unusedVariables false
/-- All numbers of a list lie in lo..hi. -/
def fromB (lo hi : Int) (zs : List Int) : Bool := zs.all fun z => decide (lo ≤ z ∧ z ≤ hi)
theorem from_at {lo hi : Int} {zs : List Int} (h : fromB lo hi zs = true) {i : Nat} (hi' : i < zs.length) : lo ≤ zs.getD i 0 ∧ zs.getD i 0 ≤ hi := by
  unfold fromB at h
  rw [List.all_eq_true] at h
  exact of_decide_eq_true (h _ (getD_memV hi'))
theorem from_yes {lo hi : Int} {zs : List Int} (h : ∀ i, i < zs.length → lo ≤ zs.getD i 0 ∧ zs.getD i 0 ≤ hi) : fromB lo hi zs = true := by
  unfold fromB
  rw [List.all_eq_true]
  intro z hz
  obtain ⟨i, hi', e⟩ := List.getElem_of_mem hz
  have := h i hi'
  rw [List.getD_eq_getElem?_getD, List.getElem?_eq_getElem hi'] at this
  rw [decide_eq_true_iff, ← e]; exact this
theorem from_no {lo hi : Int} {zs : List Int} {i : Nat} (hi' : i < zs.length) (h : ¬ (lo ≤ zs.getD i 0 ∧ zs.getD i 0 ≤ hi)) : fromB lo hi zs = false := by
  cases hb : fromB lo hi zs
  · rfl
  · exact absurd (from_at hb hi') h
/-- A number outside. -/
def offB (lo hi z : Int) : Bool := !decide (lo ≤ z ∧ z ≤ hi)
theorem any_off (lo hi : Int) (zs : List Int) : zs.any (offB lo hi) = !fromB lo hi zs := by
  unfold fromB offB
  rw [List.not_all_eq_any_not]
/-- A spread. -/
def sprB (zs : List Int) : Bool := decide (1 ≤ zs.length ∧ zs.length ≤ 8) && (fromB 0 40 zs && decide (1 ≤ smT zs zs.length ∧ smT zs zs.length ≤ 40))
structure Spr (zs : List Int) : Prop where
  n1 : 1 ≤ zs.length
  n8 : zs.length ≤ 8
  bd : ∀ i, i < zs.length → 0 ≤ zs.getD i 0 ∧ zs.getD i 0 ≤ 40
  s1 : 1 ≤ smT zs zs.length
  s40 : smT zs zs.length ≤ 40
theorem sprB_iff {zs : List Int} : sprB zs = true ↔ Spr zs := by
  unfold sprB
  rw [Bool.and_eq_true, Bool.and_eq_true, decide_eq_true_iff, decide_eq_true_iff]
  constructor
  · rintro ⟨⟨a, b⟩, c, d, e⟩; exact ⟨a, b, fun i hi => from_at c hi, d, e⟩
  · intro p; exact ⟨⟨p.n1, p.n8⟩, from_yes p.bd, p.s1, p.s40⟩
/-- Two spreads are alike. -/
def aliB (ps qs : List Int) : Bool := (sprB ps && sprB qs) && (decide (ps.length = qs.length) && decide (smT ps ps.length = smT qs qs.length))
structure Ali (ps qs : List Int) : Prop where
  p : Spr ps
  q : Spr qs
  len : ps.length = qs.length
  sum : smT ps ps.length = smT qs qs.length
theorem aliB_iff {ps qs : List Int} : aliB ps qs = true ↔ Ali ps qs := by
  unfold aliB
  rw [Bool.and_eq_true, Bool.and_eq_true, Bool.and_eq_true, decide_eq_true_iff, decide_eq_true_iff, sprB_iff, sprB_iff]
  constructor
  · rintro ⟨⟨a, b⟩, c, d⟩; exact ⟨a, b, c, d⟩
  · intro h; exact ⟨⟨h.p, h.q⟩, h.len, h.sum⟩
/-- Sums of parts of a spread. -/
theorem Spr.part {zs : List Int} (p : Spr zs) : ∀ j k, k + j ≤ zs.length → smT zs k ≤ smT zs (k + j)
  | 0, k, _ => by simp
  | j + 1, k, h => by
    have a := p.part j k (by omega)
    have b := p.bd (k + j) (by omega)
    rw [show k + (j + 1) = (k + j) + 1 from rfl]
    simp only [smT]; omega
theorem Spr.sm {zs : List Int} (p : Spr zs) {k : Nat} (hk : k ≤ zs.length) : 0 ≤ smT zs k ∧ smT zs k ≤ 40 := by
  have a := smT_nonneg (fun i hi => (p.bd i hi).1) k hk
  have b := p.part (zs.length - k) k (by omega)
  rw [show k + (zs.length - k) = zs.length by omega] at b
  have := p.s40
  omega
/-- What one list has more, from place to place. -/
def exT (ps qs : List Int) : Nat → Int
  | 0 => 0
  | k + 1 => exT ps qs k + max 0 (ps.getD k 0 - qs.getD k 0)
theorem exT_bd {ps qs : List Int} {B : Nat} {n : Nat} (h : ∀ i, i < n → -(B : Int) ≤ ps.getD i 0 - qs.getD i 0 ∧ ps.getD i 0 - qs.getD i 0 ≤ B) : ∀ k, k ≤ n → 0 ≤ exT ps qs k ∧ exT ps qs k ≤ ((k * B : Nat) : Int)
  | 0, _ => by simp [exT]
  | k + 1, hk => by
    have a := exT_bd h k (by omega)
    have b := h k (by omega)
    have e : (k + 1) * B = k * B + B := Nat.succ_mul k B
    simp only [exT]
    omega
theorem exT_ge0 (ps qs : List Int) : ∀ k, 0 ≤ exT ps qs k
  | 0 => by simp [exT]
  | k + 1 => by have a := exT_ge0 ps qs k; simp only [exT]; omega
theorem exT_zero {ps qs : List Int} : ∀ n, exT ps qs n = 0 ↔ ∀ k, k < n → ps.getD k 0 ≤ qs.getD k 0
  | 0 => by simp [exT]
  | n + 1 => by
    have ih := exT_zero (ps := ps) (qs := qs) n
    have g := exT_ge0 ps qs n
    simp only [exT]
    constructor
    · intro h k hk
      rcases Nat.lt_or_ge k n with a | a
      · exact ih.1 (by omega) k a
      · rw [show k = n by omega]; omega
    · intro h
      have a := ih.2 (fun k hk => h k (by omega))
      have b := h n (by omega)
      omega
/-- The sums up to each place. -/
def totT (zs : List Int) : List Int := (List.range zs.length).map fun i => smT zs (i + 1)
theorem totT_len (zs : List Int) : (totT zs).length = zs.length := by simp [totT]
theorem totT_at {zs : List Int} {i : Nat} (h : i < zs.length) : (totT zs).getD i 0 = smT zs (i + 1) := by
  unfold totT
  rw [List.getD_eq_getElem?_getD, List.getElem?_map, List.getElem?_range h]; rfl
/-- One is above the other. -/
def abvB (ps qs : List Int) : Bool := decide (exT (totT ps) (totT qs) ps.length = 0)
theorem abv_iff {ps qs : List Int} (hl : ps.length = qs.length) : abvB ps qs = true ↔ ∀ k, k < ps.length → smT ps (k + 1) ≤ smT qs (k + 1) := by
  unfold abvB
  rw [decide_eq_true_iff, exT_zero]
  constructor
  · intro h k hk; have := h k hk; rwa [totT_at hk, totT_at (by omega)] at this
  · intro h k hk; rw [totT_at hk, totT_at (by omega)]; exact h k hk
theorem abv_no {ps qs : List Int} (hl : ps.length = qs.length) {k : Nat} (hk : k < ps.length) (h : ¬ smT ps (k + 1) ≤ smT qs (k + 1)) : abvB ps qs = false := by
  cases hb : abvB ps qs
  · rfl
  · exact absurd ((abv_iff hl).1 hb k hk) h
/-- The differences of the sums, without their signs. -/
def eaT (ps qs : List Int) : Nat → Int
  | 0 => 0
  | k + 1 => eaT ps qs k + max (smT ps (k + 1) - smT qs (k + 1)) (-(smT ps (k + 1) - smT qs (k + 1)))
theorem ea_ex {ps qs : List Int} (hl : ps.length = qs.length) : ∀ k, k ≤ ps.length → eaT ps qs k = exT (totT ps) (totT qs) k + exT (totT qs) (totT ps) k
  | 0, _ => by simp [eaT, exT]
  | k + 1, hk => by
    have a := ea_ex hl k (by omega)
    have e1 := totT_at (zs := ps) (i := k) (by omega)
    have e2 := totT_at (zs := qs) (i := k) (by omega)
    simp only [eaT, exT]
    rw [a, e1, e2]
    omega
/-- Sums of sums. -/
def ssT (zs : List Int) : Nat → Int
  | 0 => 0
  | k + 1 => ssT zs k + smT zs (k + 1)
theorem smT_tot {zs : List Int} : ∀ k, k ≤ zs.length → smT (totT zs) k = ssT zs k
  | 0, _ => rfl
  | k + 1, hk => by
    simp only [smT, ssT]
    rw [smT_tot k (by omega), totT_at (by omega)]
    simp only [smT]
/-- What lies below a spot, each times how far. -/
def blT (zs : List Int) (s : Nat) : Nat → Int
  | 0 => 0
  | k + 1 => blT zs s k + zs.getD k 0 * ((s : Int) - (k : Int))
theorem blT_up (zs : List Int) (s : Nat) : ∀ k, blT zs (s + 1) k = blT zs s k + smT zs k
  | 0 => by simp [blT, smT]
  | k + 1 => by
    have a := blT_up zs s k
    simp only [blT, smT]
    rw [a]
    have e : ((s + 1 : Nat) : Int) - (k : Int) = ((s : Int) - (k : Int)) + 1 := by omega
    rw [e, Int.mul_add, Int.mul_one]
    omega
theorem blT_all (zs : List Int) : ∀ s, blT zs s s = ssT zs s
  | 0 => rfl
  | s + 1 => by
    have a := blT_all zs s
    have b := blT_up zs s s
    simp only [blT, ssT, smT]
    rw [b, a, show ((s + 1 : Nat) : Int) - (s : Int) = 1 by omega, Int.mul_one]
    omega
theorem ss_mo (zs : List Int) : ∀ k, ssT zs k + moT zs k = (k : Int) * smT zs k
  | 0 => by simp [ssT, moT]
  | k + 1 => by
    have a := ss_mo zs k
    simp only [ssT, moT, smT]
    have e : ((k + 1 : Nat) : Int) = (k : Int) + 1 := by omega
    rw [e, Int.add_mul, Int.mul_add, Int.one_mul]
    omega
/-- One is wider than the other. -/
def widB (ps qs : List Int) : Bool := decide (ssT ps ps.length = ssT qs ps.length) && decide (exT (totT (totT qs)) (totT (totT ps)) ps.length = 0)
theorem tt_at {zs : List Int} {i : Nat} (h : i < zs.length) : (totT (totT zs)).getD i 0 = ssT zs (i + 1) := by
  rw [totT_at (by rw [totT_len]; exact h), smT_tot _ (by omega)]
theorem wid_iff {ps qs : List Int} (hl : ps.length = qs.length) : widB ps qs = true ↔ ssT ps ps.length = ssT qs ps.length ∧ ∀ k, k < ps.length → ssT qs (k + 1) ≤ ssT ps (k + 1) := by
  unfold widB
  rw [Bool.and_eq_true, decide_eq_true_iff, decide_eq_true_iff, exT_zero]
  constructor
  · rintro ⟨a, h⟩; exact ⟨a, fun k hk => by have := h k hk; rwa [tt_at (by omega), tt_at hk] at this⟩
  · rintro ⟨a, h⟩; exact ⟨a, fun k hk => by rw [tt_at (by omega), tt_at hk]; exact h k hk⟩
/-- As the model tells it: the parts below each spot, and the moments. -/
theorem wid_mo {ps qs : List Int} (h : Ali ps qs) (hb : ∀ s, s < ps.length → blT qs s s ≤ blT ps s s) : widB ps qs = decide (moT ps ps.length = moT qs qs.length) := by
  have e1 := ss_mo ps ps.length
  have e2 := ss_mo qs qs.length
  have hs := h.sum
  have hl := h.len
  rw [hs] at e1
  rw [← hl] at e2 hs e1
  rw [← hl, Bool.eq_iff_iff, wid_iff hl, decide_eq_true_iff]
  constructor
  · rintro ⟨a, _⟩; omega
  · intro a
    have q : ssT ps ps.length = ssT qs ps.length := by omega
    refine ⟨q, fun k hk => ?_⟩
    rcases Nat.lt_or_ge (k + 1) ps.length with c | c
    · have := hb (k + 1) c; rwa [blT_all, blT_all] at this
    · rw [show k + 1 = ps.length by omega]; omega
theorem wid_no {ps qs : List Int} (h : Ali ps qs) {s : Nat} (hs : s < ps.length) (hb : ¬ blT qs s s ≤ blT ps s s) : widB ps qs = false := by
  cases hw : widB ps qs
  · rfl
  · have := ((wid_iff h.len).1 hw).2
    rw [blT_all, blT_all] at hb
    cases s with
    | zero => simp [ssT] at hb
    | succ s => exact absurd (this s (by omega)) hb
theorem ss_bd {zs : List Int} (p : Spr zs) : ∀ k, k ≤ zs.length → 0 ≤ ssT zs k ∧ ssT zs k ≤ ((k * 40 : Nat) : Int)
  | 0, _ => by simp [ssT]
  | k + 1, hk => by
    have a := ss_bd p k (by omega)
    have b := p.sm (k := k + 1) (by omega)
    simp only [ssT]; omega
theorem bl_bd {zs : List Int} (p : Spr zs) (s : Nat) (hs : s ≤ 8) : ∀ k, k ≤ s → k ≤ zs.length → 0 ≤ blT zs s k ∧ blT zs s k ≤ ((k * 320 : Nat) : Int)
  | 0, _, _ => by simp [blT]
  | k + 1, h1, h2 => by
    have a := bl_bd p s hs k (by omega) (by omega)
    have b := p.bd k (by omega)
    have e0 : 0 ≤ zs.getD k 0 * ((s : Int) - (k : Int)) := Int.mul_nonneg b.1 (by omega)
    have e1 : zs.getD k 0 * ((s : Int) - (k : Int)) ≤ 40 * 8 := Int.mul_le_mul b.2 (by omega) (by omega) (by omega)
    simp only [blT]; omega
/-- One unit goes to each of the two spots next to a spot. -/
def mvT (zs : List Int) (s : Nat) : List Int :=
  let a := zs.set (s - 1) (zs.getD (s - 1) 0 + 1)
  let b := a.set s (a.getD s 0 - 2)
  b.set (s + 1) (b.getD (s + 1) 0 + 1)
def mvB (zs : List Int) (s : Int) : Bool := sprB zs && (decide (1 ≤ s ∧ s ≤ (zs.length : Int) - 2) && decide (2 ≤ zs.getD s.toNat 0))
/-- The sums of both units. -/
def mxT (ps qs : List Int) : List Int := (List.range ps.length).map fun i => ps.getD i 0 + qs.getD i 0
theorem mxT_len (ps qs : List Int) : (mxT ps qs).length = ps.length := by simp [mxT]
theorem mxT_at {ps qs : List Int} {i : Nat} (h : i < ps.length) : (mxT ps qs).getD i 0 = ps.getD i 0 + qs.getD i 0 := by
  unfold mxT
  rw [List.getD_eq_getElem?_getD, List.getElem?_map, List.getElem?_range h]; rfl
def mixB (ps qs : List Int) : Bool := aliB ps qs && sprB (mxT ps qs)
end Go.Proofs.Ytligidmkhbcpmab
