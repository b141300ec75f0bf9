/- BndS, L7P, SprP, CtnI, Fill, LrgP, LrgI, PeaM, LrgM, LrgN in one text. -/
import Derived.Test.YtligidmkhbcpmacLgA
import Derived.Test.YtligidmkhbcpmacFracP
import Derived.Test.YtligidmkhbcpmacPrm
import Derived.Test.YtligidmkhbcpmacInS
import Derived.Deep.LoopGhost
import Derived.Lib.SliceRun
import Derived.Shelf.Abstract
import Derived.RegionTactic
import Derived.ChangeAlike
import Derived.Deep.RegionHeld3
import Derived.Deep.DeepCutAuto
import Derived.Deep.RegionWith
namespace Go.Proofs.Ytligidmkhbcpmac
open Go.RowKit
set_option linter.unusedVariables false
end Go.Proofs.Ytligidmkhbcpmac
namespace Go.Proofs.Ytligidmkhbcpmac
set_option linter.unusedVariables false
/-- The sum of the first ones. -/
def smT (zs : List Int) : Nat → Int
  | 0 => 0
  | k + 1 => smT zs k + zs.getD k 0
/-- The sum of the first ones, each times its place. -/
def moT (zs : List Int) : Nat → Int
  | 0 => 0
  | k + 1 => moT zs k + (k : Int) * zs.getD k 0
/-- A weight within bounds. -/
def inV (z : Int) : Bool := decide (0 ≤ z ∧ z ≤ 5)
def outV (z : Int) : Bool := !inV z
def lawB (zs : List Int) : Bool := decide (1 ≤ zs.length ∧ zs.length ≤ 5) && (zs.all inV && decide (0 < smT zs zs.length))
structure Law (zs : List Int) : Prop where
  n1 : 1 ≤ zs.length
  n5 : zs.length ≤ 5
  bd : ∀ i, i < zs.length → 0 ≤ zs.getD i 0 ∧ zs.getD i 0 ≤ 5
  pos : 0 < smT zs zs.length
theorem getD_memV {zs : List Int} {i : Nat} (hi : i < zs.length) : zs.getD i 0 ∈ zs := by
  rw [List.getD_eq_getElem?_getD, List.getElem?_eq_getElem hi]; exact List.getElem_mem hi
theorem allV_at {zs : List Int} (h : zs.all inV = true) {i : Nat} (hi : i < zs.length) : 0 ≤ zs.getD i 0 ∧ zs.getD i 0 ≤ 5 := by
  rw [List.all_eq_true] at h
  exact of_decide_eq_true (h _ (getD_memV hi))
theorem allV_yes {zs : List Int} (h : ∀ i, i < zs.length → 0 ≤ zs.getD i 0 ∧ zs.getD i 0 ≤ 5) : zs.all inV = true := by
  rw [List.all_eq_true]
  intro z hz
  obtain ⟨i, hi, e⟩ := List.getElem_of_mem hz
  have := h i hi
  rw [List.getD_eq_getElem?_getD, List.getElem?_eq_getElem hi] at this
  unfold inV
  rw [decide_eq_true_iff, ← e]; exact this
theorem allV_no {zs : List Int} {i : Nat} (hi : i < zs.length) (h : ¬ (0 ≤ zs.getD i 0 ∧ zs.getD i 0 ≤ 5)) : zs.all inV = false := by
  cases hb : zs.all inV
  · rfl
  · exact absurd (allV_at hb hi) h
theorem any_outV (zs : List Int) : zs.any outV = !zs.all inV := by
  unfold outV
  rw [List.not_all_eq_any_not]
theorem lawB_iff {zs : List Int} : lawB zs = true ↔ Law zs := by
  unfold lawB
  rw [Bool.and_eq_true, Bool.and_eq_true, decide_eq_true_iff, decide_eq_true_iff]
  constructor
  · rintro ⟨⟨a, b⟩, c, d⟩; exact ⟨a, b, fun i hi => allV_at c hi, d⟩
  · intro p; exact ⟨⟨p.n1, p.n5⟩, allV_yes p.bd, p.pos⟩
/-- In the program's order: length, weights, total. -/
theorem lawB_prog (zs : List Int) : lawB zs = (decide (zs.length ≤ 5) && (zs.all inV && decide (0 < smT zs zs.length))) := by
  unfold lawB
  cases zs with
  | nil => rfl
  | cons a l => rw [show decide (1 ≤ (a :: l).length ∧ (a :: l).length ≤ 5) = decide ((a :: l).length ≤ 5) from by rw [Bool.eq_iff_iff, decide_eq_true_iff, decide_eq_true_iff]; simp]
theorem smT_bd {zs : List Int} {B : Nat} (h : ∀ i, i < zs.length → -(B : Int) ≤ zs.getD i 0 ∧ zs.getD i 0 ≤ B) : ∀ k, k ≤ zs.length → -((k * B : Nat) : Int) ≤ smT zs k ∧ smT zs k ≤ ((k * B : Nat) : Int)
  | 0, _ => by simp [smT]
  | k + 1, hk => by
    have a := smT_bd h k (by omega)
    have b := h k (by omega)
    have e : (k + 1) * B = k * B + B := Nat.succ_mul k B
    simp only [smT]
    omega
theorem smT_nonneg {zs : List Int} (h : ∀ i, i < zs.length → 0 ≤ zs.getD i 0) : ∀ k, k ≤ zs.length → 0 ≤ smT zs k
  | 0, _ => by simp [smT]
  | k + 1, hk => by
    have a := smT_nonneg h k (by omega)
    have b := h k (by omega)
    simp only [smT]; omega
theorem moT_bd {zs : List Int} {B N : Nat} (hN : zs.length ≤ N) (h : ∀ i, i < zs.length → 0 ≤ zs.getD i 0 ∧ zs.getD i 0 ≤ B) : ∀ k, k ≤ zs.length → 0 ≤ moT zs k ∧ moT zs k ≤ ((k * (N * B) : Nat) : Int)
  | 0, _ => by simp [moT]
  | k + 1, hk => by
    have a := moT_bd hN h k (by omega)
    have b := h k (by omega)
    have e : (k + 1) * (N * B) = k * (N * B) + N * B := Nat.succ_mul k _
    have p0 : 0 ≤ (k : Int) * zs.getD k 0 := Int.mul_nonneg (by omega) b.1
    have p1 : (k : Int) * zs.getD k 0 ≤ ((N * B : Nat) : Int) := by
      rw [Int.natCast_mul]
      exact Int.mul_le_mul (by omega) b.2 b.1 (by omega)
    simp only [moT]
    omega
theorem Law.sum_bd {zs : List Int} (p : Law zs) {k : Nat} (hk : k ≤ zs.length) : 0 ≤ smT zs k ∧ smT zs k ≤ 25 := by
  have a := smT_nonneg (fun i hi => (p.bd i hi).1) k hk
  have b := smT_bd (B := 5) (fun i hi => by have := p.bd i hi; omega) k hk
  have := p.n5
  have : k * 5 ≤ 25 := by omega
  omega
theorem Law.mom_bd {zs : List Int} (p : Law zs) {k : Nat} (hk : k ≤ zs.length) : 0 ≤ moT zs k ∧ moT zs k ≤ 125 := by
  have b := moT_bd (B := 5) (N := 5) p.n5 (fun i hi => p.bd i hi) k hk
  have := p.n5
  omega
end Go.Proofs.Ytligidmkhbcpmac
namespace Go.Proofs.Ytligidmkhbcpmac
set_option linter.unusedVariables false
/-- All numbers of a list lie in lo..hi. -/
def fromB (lo hi : Int) (zs : List Int) : Bool := zs.all fun z => decide (lo ≤ z ∧ z ≤ hi)
theorem from_at {lo hi : Int} {zs : List Int} (h : fromB lo hi zs = true) {i : Nat} (hi' : i < zs.length) : lo ≤ zs.getD i 0 ∧ zs.getD i 0 ≤ hi := by
  unfold fromB at h
  rw [List.all_eq_true] at h
  exact of_decide_eq_true (h _ (getD_memV hi'))
theorem from_yes {lo hi : Int} {zs : List Int} (h : ∀ i, i < zs.length → lo ≤ zs.getD i 0 ∧ zs.getD i 0 ≤ hi) : fromB lo hi zs = true := by
  unfold fromB
  rw [List.all_eq_true]
  intro z hz
  obtain ⟨i, hi', e⟩ := List.getElem_of_mem hz
  have := h i hi'
  rw [List.getD_eq_getElem?_getD, List.getElem?_eq_getElem hi'] at this
  rw [decide_eq_true_iff, ← e]; exact this
theorem from_no {lo hi : Int} {zs : List Int} {i : Nat} (hi' : i < zs.length) (h : ¬ (lo ≤ zs.getD i 0 ∧ zs.getD i 0 ≤ hi)) : fromB lo hi zs = false := by
  cases hb : fromB lo hi zs
  · rfl
  · exact absurd (from_at hb hi') h
/-- A number outside. -/
def offB (lo hi z : Int) : Bool := !decide (lo ≤ z ∧ z ≤ hi)
theorem any_off (lo hi : Int) (zs : List Int) : zs.any (offB lo hi) = !fromB lo hi zs := by
  unfold fromB offB
  rw [List.not_all_eq_any_not]
/-- A spread. -/
def sprB (zs : List Int) : Bool := decide (1 ≤ zs.length ∧ zs.length ≤ 8) && (fromB 0 40 zs && decide (1 ≤ smT zs zs.length ∧ smT zs zs.length ≤ 40))
structure Spr (zs : List Int) : Prop where
  n1 : 1 ≤ zs.length
  n8 : zs.length ≤ 8
  bd : ∀ i, i < zs.length → 0 ≤ zs.getD i 0 ∧ zs.getD i 0 ≤ 40
  s1 : 1 ≤ smT zs zs.length
  s40 : smT zs zs.length ≤ 40
theorem sprB_iff {zs : List Int} : sprB zs = true ↔ Spr zs := by
  unfold sprB
  rw [Bool.and_eq_true, Bool.and_eq_true, decide_eq_true_iff, decide_eq_true_iff]
  constructor
  · rintro ⟨⟨a, b⟩, c, d, e⟩; exact ⟨a, b, fun i hi => from_at c hi, d, e⟩
  · intro p; exact ⟨⟨p.n1, p.n8⟩, from_yes p.bd, p.s1, p.s40⟩
/-- Two spreads are alike. -/
def aliB (ps qs : List Int) : Bool := (sprB ps && sprB qs) && (decide (ps.length = qs.length) && decide (smT ps ps.length = smT qs qs.length))
structure Ali (ps qs : List Int) : Prop where
  p : Spr ps
  q : Spr qs
  len : ps.length = qs.length
  sum : smT ps ps.length = smT qs qs.length
theorem aliB_iff {ps qs : List Int} : aliB ps qs = true ↔ Ali ps qs := by
  unfold aliB
  rw [Bool.and_eq_true, Bool.and_eq_true, Bool.and_eq_true, decide_eq_true_iff, decide_eq_true_iff, sprB_iff, sprB_iff]
  constructor
  · rintro ⟨⟨a, b⟩, c, d⟩; exact ⟨a, b, c, d⟩
  · intro h; exact ⟨⟨h.p, h.q⟩, h.len, h.sum⟩
/-- Sums of parts of a spread. -/
theorem Spr.part {zs : List Int} (p : Spr zs) : ∀ j k, k + j ≤ zs.length → smT zs k ≤ smT zs (k + j)
  | 0, k, _ => by simp
  | j + 1, k, h => by
    have a := p.part j k (by omega)
    have b := p.bd (k + j) (by omega)
    rw [show k + (j + 1) = (k + j) + 1 from rfl]
    simp only [smT]; omega
theorem Spr.sm {zs : List Int} (p : Spr zs) {k : Nat} (hk : k ≤ zs.length) : 0 ≤ smT zs k ∧ smT zs k ≤ 40 := by
  have a := smT_nonneg (fun i hi => (p.bd i hi).1) k hk
  have b := p.part (zs.length - k) k (by omega)
  rw [show k + (zs.length - k) = zs.length by omega] at b
  have := p.s40
  omega
/-- What one list has more, from place to place. -/
def exT (ps qs : List Int) : Nat → Int
  | 0 => 0
  | k + 1 => exT ps qs k + max 0 (ps.getD k 0 - qs.getD k 0)
theorem exT_bd {ps qs : List Int} {B : Nat} {n : Nat} (h : ∀ i, i < n → -(B : Int) ≤ ps.getD i 0 - qs.getD i 0 ∧ ps.getD i 0 - qs.getD i 0 ≤ B) : ∀ k, k ≤ n → 0 ≤ exT ps qs k ∧ exT ps qs k ≤ ((k * B : Nat) : Int)
  | 0, _ => by simp [exT]
  | k + 1, hk => by
    have a := exT_bd h k (by omega)
    have b := h k (by omega)
    have e : (k + 1) * B = k * B + B := Nat.succ_mul k B
    simp only [exT]
    omega
theorem exT_ge0 (ps qs : List Int) : ∀ k, 0 ≤ exT ps qs k
  | 0 => by simp [exT]
  | k + 1 => by have a := exT_ge0 ps qs k; simp only [exT]; omega
theorem exT_zero {ps qs : List Int} : ∀ n, exT ps qs n = 0 ↔ ∀ k, k < n → ps.getD k 0 ≤ qs.getD k 0
  | 0 => by simp [exT]
  | n + 1 => by
    have ih := exT_zero (ps := ps) (qs := qs) n
    have g := exT_ge0 ps qs n
    simp only [exT]
    constructor
    · intro h k hk
      rcases Nat.lt_or_ge k n with a | a
      · exact ih.1 (by omega) k a
      · rw [show k = n by omega]; omega
    · intro h
      have a := ih.2 (fun k hk => h k (by omega))
      have b := h n (by omega)
      omega
/-- The sums up to each place. -/
def tuT (zs : List Int) : List Int := (List.range zs.length).map fun i => smT zs (i + 1)
theorem tuT_len (zs : List Int) : (tuT zs).length = zs.length := by simp [tuT]
theorem tuT_at {zs : List Int} {i : Nat} (h : i < zs.length) : (tuT zs).getD i 0 = smT zs (i + 1) := by
  unfold tuT
  rw [List.getD_eq_getElem?_getD, List.getElem?_map, List.getElem?_range h]; rfl
/-- One is above the other. -/
def abvB (ps qs : List Int) : Bool := decide (exT (tuT ps) (tuT qs) ps.length = 0)
theorem abv_iff {ps qs : List Int} (hl : ps.length = qs.length) : abvB ps qs = true ↔ ∀ k, k < ps.length → smT ps (k + 1) ≤ smT qs (k + 1) := by
  unfold abvB
  rw [decide_eq_true_iff, exT_zero]
  constructor
  · intro h k hk; have := h k hk; rwa [tuT_at hk, tuT_at (by omega)] at this
  · intro h k hk; rw [tuT_at hk, tuT_at (by omega)]; exact h k hk
theorem abv_no {ps qs : List Int} (hl : ps.length = qs.length) {k : Nat} (hk : k < ps.length) (h : ¬ smT ps (k + 1) ≤ smT qs (k + 1)) : abvB ps qs = false := by
  cases hb : abvB ps qs
  · rfl
  · exact absurd ((abv_iff hl).1 hb k hk) h
/-- The differences of the sums, without their signs. -/
def eaT (ps qs : List Int) : Nat → Int
  | 0 => 0
  | k + 1 => eaT ps qs k + max (smT ps (k + 1) - smT qs (k + 1)) (-(smT ps (k + 1) - smT qs (k + 1)))
theorem ea_ex {ps qs : List Int} (hl : ps.length = qs.length) : ∀ k, k ≤ ps.length → eaT ps qs k = exT (tuT ps) (tuT qs) k + exT (tuT qs) (tuT ps) k
  | 0, _ => by simp [eaT, exT]
  | k + 1, hk => by
    have a := ea_ex hl k (by omega)
    have e1 := tuT_at (zs := ps) (i := k) (by omega)
    have e2 := tuT_at (zs := qs) (i := k) (by omega)
    simp only [eaT, exT]
    rw [a, e1, e2]
    omega
/-- Sums of sums. -/
def ssT (zs : List Int) : Nat → Int
  | 0 => 0
  | k + 1 => ssT zs k + smT zs (k + 1)
theorem smT_tu {zs : List Int} : ∀ k, k ≤ zs.length → smT (tuT zs) k = ssT zs k
  | 0, _ => rfl
  | k + 1, hk => by
    simp only [smT, ssT]
    rw [smT_tu k (by omega), tuT_at (by omega)]
    simp only [smT]
/-- What lies below a spot, each times how far. -/
def blT (zs : List Int) (s : Nat) : Nat → Int
  | 0 => 0
  | k + 1 => blT zs s k + zs.getD k 0 * ((s : Int) - (k : Int))
theorem blT_up (zs : List Int) (s : Nat) : ∀ k, blT zs (s + 1) k = blT zs s k + smT zs k
  | 0 => by simp [blT, smT]
  | k + 1 => by
    have a := blT_up zs s k
    simp only [blT, smT]
    rw [a]
    have e : ((s + 1 : Nat) : Int) - (k : Int) = ((s : Int) - (k : Int)) + 1 := by omega
    rw [e, Int.mul_add, Int.mul_one]
    omega
theorem blT_all (zs : List Int) : ∀ s, blT zs s s = ssT zs s
  | 0 => rfl
  | s + 1 => by
    have a := blT_all zs s
    have b := blT_up zs s s
    simp only [blT, ssT, smT]
    rw [b, a, show ((s + 1 : Nat) : Int) - (s : Int) = 1 by omega, Int.mul_one]
    omega
theorem ss_mo (zs : List Int) : ∀ k, ssT zs k + moT zs k = (k : Int) * smT zs k
  | 0 => by simp [ssT, moT]
  | k + 1 => by
    have a := ss_mo zs k
    simp only [ssT, moT, smT]
    have e : ((k + 1 : Nat) : Int) = (k : Int) + 1 := by omega
    rw [e, Int.add_mul, Int.mul_add, Int.one_mul]
    omega
/-- One is wider than the other. -/
def widB (ps qs : List Int) : Bool := decide (ssT ps ps.length = ssT qs ps.length) && decide (exT (tuT (tuT qs)) (tuT (tuT ps)) ps.length = 0)
theorem tt_at {zs : List Int} {i : Nat} (h : i < zs.length) : (tuT (tuT zs)).getD i 0 = ssT zs (i + 1) := by
  rw [tuT_at (by rw [tuT_len]; exact h), smT_tu _ (by omega)]
theorem wid_iff {ps qs : List Int} (hl : ps.length = qs.length) : widB ps qs = true ↔ ssT ps ps.length = ssT qs ps.length ∧ ∀ k, k < ps.length → ssT qs (k + 1) ≤ ssT ps (k + 1) := by
  unfold widB
  rw [Bool.and_eq_true, decide_eq_true_iff, decide_eq_true_iff, exT_zero]
  constructor
  · rintro ⟨a, h⟩; exact ⟨a, fun k hk => by have := h k hk; rwa [tt_at (by omega), tt_at hk] at this⟩
  · rintro ⟨a, h⟩; exact ⟨a, fun k hk => by rw [tt_at (by omega), tt_at hk]; exact h k hk⟩
/-- As the model tells it: the parts below each spot, and the moments. -/
theorem wid_mo {ps qs : List Int} (h : Ali ps qs) (hb : ∀ s, s < ps.length → blT qs s s ≤ blT ps s s) : widB ps qs = decide (moT ps ps.length = moT qs qs.length) := by
  have e1 := ss_mo ps ps.length
  have e2 := ss_mo qs qs.length
  have hs := h.sum
  have hl := h.len
  rw [hs] at e1
  rw [← hl] at e2 hs e1
  rw [← hl, Bool.eq_iff_iff, wid_iff hl, decide_eq_true_iff]
  constructor
  · rintro ⟨a, _⟩; omega
  · intro a
    have q : ssT ps ps.length = ssT qs ps.length := by omega
    refine ⟨q, fun k hk => ?_⟩
    rcases Nat.lt_or_ge (k + 1) ps.length with c | c
    · have := hb (k + 1) c; rwa [blT_all, blT_all] at this
    · rw [show k + 1 = ps.length by omega]; omega
theorem wid_no {ps qs : List Int} (h : Ali ps qs) {s : Nat} (hs : s < ps.length) (hb : ¬ blT qs s s ≤ blT ps s s) : widB ps qs = false := by
  cases hw : widB ps qs
  · rfl
  · have := ((wid_iff h.len).1 hw).2
    rw [blT_all, blT_all] at hb
    cases s with
    | zero => simp [ssT] at hb
    | succ s => exact absurd (this s (by omega)) hb
theorem ss_bd {zs : List Int} (p : Spr zs) : ∀ k, k ≤ zs.length → 0 ≤ ssT zs k ∧ ssT zs k ≤ ((k * 40 : Nat) : Int)
  | 0, _ => by simp [ssT]
  | k + 1, hk => by
    have a := ss_bd p k (by omega)
    have b := p.sm (k := k + 1) (by omega)
    simp only [ssT]; omega
theorem bl_bd {zs : List Int} (p : Spr zs) (s : Nat) (hs : s ≤ 8) : ∀ k, k ≤ s → k ≤ zs.length → 0 ≤ blT zs s k ∧ blT zs s k ≤ ((k * 320 : Nat) : Int)
  | 0, _, _ => by simp [blT]
  | k + 1, h1, h2 => by
    have a := bl_bd p s hs k (by omega) (by omega)
    have b := p.bd k (by omega)
    have e0 : 0 ≤ zs.getD k 0 * ((s : Int) - (k : Int)) := Int.mul_nonneg b.1 (by omega)
    have e1 : zs.getD k 0 * ((s : Int) - (k : Int)) ≤ 40 * 8 := Int.mul_le_mul b.2 (by omega) (by omega) (by omega)
    simp only [blT]; omega
/-- One unit goes to each of the two spots next to a spot. -/
def mvT (zs : List Int) (s : Nat) : List Int :=
  let a := zs.set (s - 1) (zs.getD (s - 1) 0 + 1)
  let b := a.set s (a.getD s 0 - 2)
  b.set (s + 1) (b.getD (s + 1) 0 + 1)
def mvB (zs : List Int) (s : Int) : Bool := sprB zs && (decide (1 ≤ s ∧ s ≤ (zs.length : Int) - 2) && decide (2 ≤ zs.getD s.toNat 0))
/-- The sums of both units. -/
def mxT (ps qs : List Int) : List Int := (List.range ps.length).map fun i => ps.getD i 0 + qs.getD i 0
theorem mxT_len (ps qs : List Int) : (mxT ps qs).length = ps.length := by simp [mxT]
theorem mxT_at {ps qs : List Int} {i : Nat} (h : i < ps.length) : (mxT ps qs).getD i 0 = ps.getD i 0 + qs.getD i 0 := by
  unfold mxT
  rw [List.getD_eq_getElem?_getD, List.getElem?_map, List.getElem?_range h]; rfl
def mixB (ps qs : List Int) : Bool := aliB ps qs && sprB (mxT ps qs)
end Go.Proofs.Ytligidmkhbcpmac
namespace Go.Proofs.Ytligidmkhbcpmac
open Go.RowKit
set_option linter.unusedVariables false
theorem ret_bY {a b : Bool} (h : a = b) : Ending.returned (.bool b) = .returned (.bool a) := by rw [h]
theorem fromY (x a b : Int) (w : World) : Calls Try.prog 89 #[.int .i64 x, .int .i64 a, .int .i64 b] w fun e w' => e = .returned (.bool (decide (a ≤ x ∧ x ≤ b))) ∧ w = w' := by
  by_cases h1 : a ≤ x
  · by_cases h2 : x ≤ b
    · rw [decide_eq_true ⟨h1, h2⟩]
      go_enter Try.func89, Try.ntmps89
      go_wp2
      go_ret
      exact ⟨rfl, rfl⟩
    · rw [decide_eq_false (fun h => h2 h.2)]
      go_enter Try.func89, Try.ntmps89
      go_wp2
      go_ret
      exact ⟨rfl, rfl⟩
  · rw [decide_eq_false (fun h => h1 h.1)]
    go_enter Try.func89, Try.ntmps89
    go_wp2
    go_ret
    exact ⟨rfl, rfl⟩
/-- What is asked of a test of numbers that is handed over. -/
def PredY (g : Nat) (lb : Array Value) (p : Int → Bool) (zs : List Int) (w : World) : Prop :=
  ∀ (W : World) (z : Int), z ∈ zs → Below w.heap.size w W → Calls Try.prog g (#[.int .i64 z] ++ lb) W fun e w' => e = .returned (.bool (p z)) ∧ Below W.heap.size W w'
theorem any_hitY {p : Int → Bool} {zs : List Int} {k : Nat} (hk : k < zs.length) (h : p (zs.getD k 0) = true) : zs.any p = true := List.any_eq_true.2 ⟨_, getD_memV hk, h⟩
theorem any_missY {p : Int → Bool} {zs : List Int} (h : ∀ j, j < zs.length → p (zs.getD j 0) = false) : zs.any p = false := by
  rw [List.any_eq_false]
  intro z hz
  obtain ⟨i, hi, e⟩ := List.getElem_of_mem hz
  have := h i hi
  rw [List.getD_eq_getElem?_getD, List.getElem?_eq_getElem hi] at this
  rw [← e]; simpa using this
set_option maxHeartbeats 2000000 in
theorem indexY (zs : List Int) (v : Value) (g : Nat) (lb : Array Value) (p : Int → Bool) (w : World) (eg : ∀ args w, (callFunc g args).run Try.prog w = .ok (.enter g args) w)
    (hn : zs.length ≤ 1048576) (h : IntsV w w.heap.size v zs) (hp : PredY g lb p zs w) :
    Calls Try.prog 206 #[v, .func (.func g) #[] lb] w fun e w' => ∃ k : Int, e = .returned (.int .i64 k) ∧ -1 ≤ k ∧ k ≤ 1048576 ∧ decide (0 ≤ k) = zs.any p ∧ Below w.heap.size w w' := by
  obtain ⟨q, cq, rfl, lq, mq, zq, iq⟩ := h
  have E1 := Lib.hid iq
  have PP := Lib.hid hp
  clear iq zq mq hp
  go_enter Try.func206, Try.ntmps206
  go_wp2
  go_loopw [8] (fun i wr => ∃ k : Nat, k ≤ zs.length ∧ i = .int .i64 k ∧ Hid (∀ j, j < k → p (zs.getD j 0) = false) ∧ Hid (Below w.heap.size w wr)) (fun i _ => zs.length - (intOf i).toNat)
  case atStart => exact ⟨0, Nat.zero_le _, rfl, Lib.hid (fun j hj => by omega), Lib.hid (Below.refl _ _)⟩
  case round =>
    obtain ⟨k, hk, rfl, HA, HB⟩ := hrel
    by_cases hlt : k < zs.length
    · obtain ⟨b, off, rfl, hb, hc⟩ := E1.out.get hlt
      have hcw : wr.cell? ⟨b, off + k, none⟩ = some (.int .i64 (zs.getD k 0)) := by rw [HB.out.cell (p := ⟨b, off + k, none⟩) hb]; exact hc
      have C := Lib.hid (PP.out wr (zs.getD k 0) (getD_memV hlt) HB.out)
      have i0 : (0 : Int) ≤ (k : Int) := by omega
      have i1 : (k : Int) < (zs.length : Int) := by omega
      have HIT := Lib.hid (any_hitY (p := p) hlt)
      have NX : Hid (p (zs.getD k 0) = false → ∀ j, j < k + 1 → p (zs.getD j 0) = false) := Lib.hid (fun h j hj => by
        rcases Nat.lt_or_ge j k with h' | h'
        · exact HA.out j h'
        · obtain rfl : j = k := by omega
          exact h)
      obtain ⟨z, hz⟩ : ∃ z, z = zs.getD k 0 := ⟨_, rfl⟩
      rw [← hz] at hcw C HIT NX
      clear hc hz HA
      obtain ⟨t, ht⟩ : ∃ t, t = p z := ⟨_, rfl⟩
      rw [← ht] at C HIT NX
      clear ht
      cases t
      · have N2 := Lib.hid (NX.out rfl)
        clear HIT NX
        go_wp2_with (go_at_fn g; refine C.out.mono ?_; rintro e w1 ⟨rfl, b1⟩)
        have HB1 := Lib.hid (HB.out.trans (b1.mono HB.out.size))
        clear b1
        go_roundw
        case rel => exact ⟨k + 1, by omega, by go_num, N2, HB1⟩
        case measure => simp [intOf]; omega
      · have N2 := Lib.hid (HIT.out rfl)
        clear HIT NX
        go_wp2_with (go_at_fn g; refine C.out.mono ?_; rintro e w1 ⟨rfl, b1⟩)
        have HB1 := Lib.hid (HB.out.trans (b1.mono HB.out.size))
        clear b1
        go_ret
        exact ⟨_, rfl, by omega, by omega, by rw [N2.out, decide_eq_true_iff]; omega, HB1.out⟩
    · have R := Lib.hid (any_missY (p := p) (zs := zs) (fun j hj => HA.out j (by omega)))
      clear HA
      go_wp2
      go_ret
      exact ⟨_, rfl, by omega, by omega, by rw [R.out]; rfl, HB.out⟩
set_option maxHeartbeats 1000000 in
theorem containsY (zs : List Int) (v : Value) (g : Nat) (lb : Array Value) (p : Int → Bool) (w : World) (eg : ∀ args w, (callFunc g args).run Try.prog w = .ok (.enter g args) w)
    (hn : zs.length ≤ 1048576) (h : IntsV w w.heap.size v zs) (hp : PredY g lb p zs w) :
    Calls Try.prog 169 #[v, .func (.func g) #[] lb] w (Gives (.bool (zs.any p)) w) := by
  have C := Lib.hid (indexY zs v g lb p w eg hn h hp)
  obtain ⟨q, cq, rfl, _⟩ := h
  clear hp
  go_enter Try.func169, Try.ntmps169
  go_wp2_with fail
  refine C.out.mono ?_
  rintro e w1 ⟨k, rfl, h1, h2, h3, b1⟩
  have HB := Lib.hid b1
  have H3 := Lib.hid h3
  clear b1 h3
  go_wp2_with fail
  go_ret
  exact ⟨congrArg (fun b => Ending.returned (.bool b)) H3.out, HB.out⟩
set_option maxHeartbeats 2000000 in
theorem offPred (lo hi : Int) (zs : List Int) (w W0 : World) (A B : Nat) (ha : W0.cell? ⟨A, 0, none⟩ = some (.int .i64 lo)) (hA : A < W0.heap.size) (hb : W0.cell? ⟨B, 0, none⟩ = some (.int .i64 hi)) (hB : B < W0.heap.size) :
    PredY 168 #[.pointer (some ⟨A, 0, none⟩), .pointer (some ⟨B, 0, none⟩)] (offB lo hi) zs W0 := by
  intro W z hz hbl
  have x0 : W.cell? ⟨A, 0, none⟩ = some (.int .i64 lo) := by rw [hbl.cell (p := ⟨A, 0, none⟩) hA]; exact ha
  have x1 : W.cell? ⟨B, 0, none⟩ = some (.int .i64 hi) := by rw [hbl.cell (p := ⟨B, 0, none⟩) hB]; exact hb
  have F := Lib.hid (fun w => fromY z lo hi w)
  have D : Hid (offB lo hi z = !decide (lo ≤ z ∧ z ≤ hi)) := Lib.hid rfl
  clear ha hb hbl hz
  show Calls _ _ #[.int .i64 z, .pointer (some ⟨A, 0, none⟩), .pointer (some ⟨B, 0, none⟩)] _ _
  generalize decide (lo ≤ z ∧ z ≤ hi) = bb at *
  go_enter Try.func168, Try.ntmps168
  go_wp2_with fail
  refine (F.out _).mono ?_
  rintro e w1 ⟨rfl, rfl⟩
  go_wp2_with fail
  go_ret
  exact ⟨by rw [D.out]; rfl, Below.refl _ _⟩
set_option maxHeartbeats 2000000 in
theorem areFromY (zs : List Int) (v : Value) (lo hi : Int) (w : World) (hn : zs.length ≤ 1048576) (h : IntsV w w.heap.size v zs) :
    Calls Try.prog 108 #[v, .int .i64 lo, .int .i64 hi] w (Gives (.bool (fromB lo hi zs)) w) := by
  have UV := Lib.hid (fun w' (hb : Below w.heap.size w w') => (h.below hb).more hb.size)
  obtain ⟨q, cq, rfl, _⟩ := h
  have B1 := ((Below.refl w.heap.size w).alloc (Nat.le_refl _) (.cells #[.int .i64 lo] 3))
  have s1 : (w.alloc (.cells #[.int .i64 lo] 3)).heap.size = w.heap.size + 1 := by simp
  have B2 := B1.alloc B1.size (.cells #[.int .i64 hi] 3)
  have K1 := alloc_heap w (.cells #[.int .i64 lo] 3)
  have K2 := alloc_heap (w.alloc (.cells #[.int .i64 lo] 3)) (.cells #[.int .i64 hi] 3)
  have B12 := ((Below.refl (w.heap.size + 1) (w.alloc (.cells #[.int .i64 lo] 3))).alloc (by rw [s1]; exact Nat.le_refl _) (.cells #[.int .i64 hi] 3))
  have x0 : ((w.alloc (.cells #[.int .i64 lo] 3)).alloc (.cells #[.int .i64 hi] 3)).cell? ⟨w.heap.size, 0, none⟩ = some (.int .i64 lo) := by
    rw [B12.cell (p := ⟨w.heap.size, 0, none⟩) (by show w.heap.size < w.heap.size + 1; omega)]; exact (cell_of_heap (o := 0) K1 rfl).1
  have x1 : ((w.alloc (.cells #[.int .i64 lo] 3)).alloc (.cells #[.int .i64 hi] 3)).cell? ⟨w.heap.size + 1, 0, none⟩ = some (.int .i64 hi) := by
    rw [← s1]; exact (cell_of_heap (o := 0) K2 rfl).1
  clear K1 K2 B12 s1
  have hmf : ∀ (fn : Fn) (first cap : Array Value) (w : World), (Instr.makeFunc fn first cap).run Try.prog w = .ok (.func fn first cap) w := fun _ _ _ _ => rfl
  obtain ⟨wa, hwa⟩ : ∃ wa, wa = (w.alloc (.cells #[.int .i64 lo] 3)).alloc (.cells #[.int .i64 hi] 3) := ⟨_, rfl⟩
  have hs : w.heap.size + 1 < wa.heap.size := by rw [hwa]; simp
  rw [← hwa] at B2 x0 x1
  have C := Lib.hid (containsY zs _ 168 #[.pointer (some ⟨w.heap.size, 0, none⟩), .pointer (some ⟨w.heap.size + 1, 0, none⟩)] (offB lo hi) wa (enters_of Try.func168 (by kernel_rfl) rfl) hn (UV.out wa B2) (offPred lo hi zs w wa w.heap.size (w.heap.size + 1) x0 (by omega) x1 hs))
  have HB := Lib.hid B2
  have AO := Lib.hid (any_off lo hi zs)
  clear B1 B2 UV
  generalize fromB lo hi zs = bb at *
  go_enter Try.func108, Try.ntmps108
  go_wp2_with fail
  rw [← hwa]
  clear hwa
  refine C.out.mono ?_
  rintro e w1 ⟨rfl, b1⟩
  rw [AO.out]
  have HB1 := Lib.hid (HB.out.trans (b1.mono HB.out.size))
  clear b1
  go_wp2_with fail
  go_ret
  exact ⟨by simp, HB1.out⟩
set_option maxHeartbeats 2000000 in
theorem totY (zs : List Int) (v : Value) (B : Nat) (w : World) (hn : zs.length ≤ 1048576) (hb : ∀ i, i < zs.length → -1000000000 ≤ zs.getD i 0 ∧ zs.getD i 0 ≤ 1000000000) (h : IntsV w B v zs) :
    Calls Try.prog 106 #[v] w fun e w' => e = .returned (.int .i64 (smT zs zs.length)) ∧ w = w' := by
  obtain ⟨q, cq, rfl, lq, mq, zq, iq⟩ := h
  have E1 := Lib.hid iq
  have BD := Lib.hid hb
  have SB := Lib.hid (fun k hk => smT_bd (zs := zs) (B := 1000000000) (fun i hi => by have := hb i hi; omega) k hk)
  have ST := Lib.hid (fun k => show smT zs (k + 1) = smT zs k + zs.getD k 0 from rfl)
  clear iq zq mq lq hb
  go_enter Try.func106, Try.ntmps106
  go_wp2
  go_loopg [3, 8] zs.length (fun gg s i wr => ∃ k : Nat, k ≤ zs.length ∧ zs.length - k ≤ gg ∧ i = .int .i64 k ∧ s = .int .i64 (smT zs k) ∧ wr = w)
  case atStart => exact ⟨0, Nat.zero_le _, by omega, rfl, rfl, rfl⟩
  case round =>
    obtain ⟨k, hk, hgg, rfl, rfl, rfl⟩ := hrel
    by_cases hlt : k < zs.length
    · obtain ⟨b, off, rfl, hb, hc⟩ := E1.out.get hlt
      have i0 : (0 : Int) ≤ (k : Int) := by omega
      have i1 : (k : Int) < (zs.length : Int) := by omega
      have sb := SB.out k hk
      have zb := BD.out k hlt
      have st := Lib.hid (ST.out k)
      have kb : k * 1000000000 ≤ 1048576000000000 := by omega
      obtain ⟨z, hz⟩ : ∃ z, z = zs.getD k 0 := ⟨_, rfl⟩
      rw [← hz] at hc st zb
      obtain ⟨s, hs⟩ : ∃ s, s = smT zs k := ⟨_, rfl⟩
      rw [← hs] at sb st ⊢
      have sb1 : -1048576000000000 ≤ s ∧ s ≤ 1048576000000000 := by omega
      clear hz hs sb kb
      go_wp2_with fail
      go_roundg (zs.length - (k + 1))
      case rel => exact ⟨k + 1, by omega, by omega, by go_num, by rw [st.out], rfl⟩
      case measure => omega
    · have hkz : k = zs.length := by omega
      have FIN := Lib.hid (show smT zs k = smT zs zs.length by rw [hkz])
      clear hkz
      go_wp2_with fail
      go_ret
      exact ⟨by rw [FIN.out]; rfl, rfl⟩
theorem lst_ne {A B : List Int} {k : Nat} (hk : k < A.length) (h : A.getD k 0 ≠ B.getD k 0) : decide (A = B) = false := by
  rw [decide_eq_false_iff_not]
  intro e
  rw [e] at h
  exact h rfl
theorem lst_all {A B : List Int} (hl : A.length = B.length) (h : ∀ j, j < A.length → A.getD j 0 = B.getD j 0) : decide (A = B) = true := by
  rw [decide_eq_true_iff]
  apply List.ext_getElem hl
  intro i h1 h2
  have := h i h1
  rwa [List.getD_eq_getElem?_getD, List.getElem?_eq_getElem h1, List.getD_eq_getElem?_getD, List.getElem?_eq_getElem h2] at this
set_option maxRecDepth 100000 in
set_option maxHeartbeats 4000000 in
theorem equalY (A B : List Int) (v u : Value) (w : World) (ha : A.length ≤ 1048576) (hb : B.length ≤ 1048576) (hv : IntsV w w.heap.size v A) (hu : IntsV w w.heap.size u B) :
    Calls Try.prog 94 #[v, u] w fun e w' => e = .returned (.bool (decide (A = B))) ∧ ∃ m, w' = w.drewN m := by
  obtain ⟨q1, c1, rfl, _, _, _, i1⟩ := hv
  obtain ⟨q2, c2, rfl, _, _, _, i2⟩ := hu
  have E1 := Lib.hid i1
  have E2 := Lib.hid i2
  clear i1 i2
  by_cases hl : A.length = B.length
  · have HL := Lib.hid hl
    have le1 : A.length ≤ B.length := by omega
    have le2 : B.length ≤ A.length := by omega
    have hlb : ((A.length : Int) != (B.length : Int)) = false := by rw [bne_eq_false_iff_eq]; omega
    clear hl
    go_enter Try.func94, Try.ntmps94
    go_wp2_with fail
    go_loopw [13] (fun i wr => ∃ k : Nat, k ≤ A.length ∧ i = .int .i64 k ∧ Hid (∀ j, j < k → A.getD j 0 = B.getD j 0) ∧ ∃ m, wr = w.drewN m) (fun i _ => A.length - (intOf i).toNat)
    case atStart => exact ⟨0, Nat.zero_le _, rfl, Lib.hid (fun j hj => by omega), 0, rfl⟩
    case round =>
      obtain ⟨k, hk, rfl, HA, m, rfl⟩ := hrel
      by_cases hlt : k < A.length
      · obtain ⟨b, off, hq, hb1, hc⟩ := E1.out.get hlt
        subst hq
        obtain ⟨b', off', hq, hb2, hd⟩ := E2.out.get (i := k) (by omega)
        subst hq
        have NE := Lib.hid (fun h => lst_ne (A := A) (B := B) hlt h)
        have NX : Hid (A.getD k 0 = B.getD k 0 → ∀ j, j < k + 1 → A.getD j 0 = B.getD j 0) := Lib.hid (fun h j hj => by
          rcases Nat.lt_or_ge j k with h' | h'
          · exact HA.out j h'
          · obtain rfl : j = k := by omega
            exact h)
        have i0 : (0 : Int) ≤ (k : Int) := by omega
        have i1 : (k : Int) < (A.length : Int) := by omega
        have i2 : (k : Int) < (B.length : Int) := by omega
        obtain ⟨x, hx⟩ : ∃ x, x = A.getD k 0 := ⟨_, rfl⟩
        obtain ⟨y, hy⟩ : ∃ y, y = B.getD k 0 := ⟨_, rfl⟩
        rw [← hx] at hc NE NX
        rw [← hy] at hd NE NX
        clear hx hy HA
        by_cases h1 : x = y
        · have N2 := Lib.hid (NX.out h1)
          have hbe : (x != y) = false := by simp [h1]
          clear NX NE h1
          go_wp2_with fail
          first
            | (go_roundw
               case rel => exact ⟨k + 1, by omega, by go_num, N2, by first | exact ⟨_, rfl⟩ | exact ⟨_, World.drewN_drewN _ _ _⟩⟩
               case measure => simp [intOf]; omega)
            | (go_quiet (fail)
               go_wp2_with fail
               go_roundw
               case rel => exact ⟨k + 1, by omega, by go_num, N2, by first | exact ⟨_, rfl⟩ | exact ⟨_, World.drewN_drewN _ _ _⟩⟩
               case measure => simp [intOf]; omega)
        · have R := Lib.hid (NE.out h1)
          have hbe : (x != y) = true := by simpa using h1
          clear NX NE h1
          go_wp2_with fail
          first
            | (go_ret
               exact ⟨ret_bY R.out, by first | exact ⟨_, rfl⟩ | exact ⟨_, World.drewN_drewN _ _ _⟩⟩)
            | (go_quiet (fail)
               go_wp2_with fail
               go_ret
               exact ⟨ret_bY R.out, by first | exact ⟨_, rfl⟩ | exact ⟨_, World.drewN_drewN _ _ _⟩⟩)
      · have R := Lib.hid (lst_all HL.out (fun j hj => HA.out j (by omega)))
        clear HA
        go_wp2
        go_ret
        exact ⟨ret_bY R.out, m, rfl⟩
  · have R : Hid (decide (A = B) = false) := Lib.hid (by
      rw [decide_eq_false_iff_not]
      intro e
      rw [e] at hl
      exact hl rfl)
    have hlb : ((A.length : Int) != (B.length : Int)) = true := by rw [bne_iff_ne]; omega
    go_enter Try.func94, Try.ntmps94
    go_wp2
    go_ret
    exact ⟨ret_bY R.out, 0, rfl⟩
set_option maxRecDepth 100000 in
set_option maxHeartbeats 1000000 in
theorem cloneY (zs : List Int) (v : Value) (w : World) (hp : 0 < zs.length) (hn : zs.length ≤ 1048576) (h : IntsV w w.heap.size v zs) :
    Calls Try.prog 109 #[v] w (NewInts zs w) := by
  obtain ⟨p, cap, rfl, hc, hm, hz, hI⟩ := h
  obtain ⟨b, off, rfl, hb, _⟩ := hI.get hp
  have CE : ∀ j u, (zs.map (Value.int .i64))[j]? = some u → (w.alloc (.cells #[] 3)).cell? ((⟨b, off, none⟩ : Addr).add j) = some u := by
    intro j u hu
    rw [List.getElem?_map] at hu
    have hj : j < zs.length := by
      rcases Nat.lt_or_ge j zs.length with h' | h'
      · exact h'
      · rw [List.getElem?_eq_none h'] at hu; cases hu
    obtain ⟨b', off', e, hb', hc'⟩ := hI j hj
    obtain ⟨rfl, rfl⟩ : b = b' ∧ off = off' := by simpa using e
    rw [List.getElem?_eq_getElem hj] at hu
    rw [Addr.add_lit, World.cell?_alloc_lt _ _ _ (by exact hb'), hc']; exact hu
  have HZ := Lib.hid hz
  have HCE := Lib.hid CE
  clear hI hz CE
  obtain ⟨i0, hi, hz0, hz1, hz2⟩ := info_parts intInfo
  have B1 := Lib.hid ((Below.refl w.heap.size w).alloc (Nat.le_refl _) (.cells #[] 3))
  have O1 := Lib.hid (OwnV.empty w w.heap.size (Nat.le_refl _))
  have q22 : ∀ (w : World) (a : Option Addr) (n c n' c' : Nat), (binOp .eql 22 (.slice a n c) (.slice none n' c')).run Try.prog w = .ok (.bool a.isNone) w := fun w a n c n' c' => Lib.run_eql_slice_nil w _ _ a n c n' c' Try.underlying22
  go_enter Try.func109, Try.ntmps109
  go_wp2_with (at_builtin; refine wpList_append_own _ rfl _ _ 22 rfl w.heap.size 3 i0 (.int .i64 0) 1 8 Try.underlying22 hi hz0 hz1 hz2 rfl (by decide) _ 0 [] rfl O1.out.row ⟨b, off, none⟩ zs.length cap (zs.map (.int .i64)) rfl (by simp) HCE.out (fun u hu => by obtain ⟨z, _, rfl⟩ := List.mem_map.1 hu; rfl) (by unfold maxLen; omega) (by omega) (by simp) ?_; intro v' w3 hown3 hgrow3 hnil3)
  have FIN : Hid (NewInts zs w (.returned v') w3) := Lib.hid ⟨v', rfl, ⟨by simpa using hown3, fun q hq => (hown3.lt q hq).2, Nat.le_refl _, HZ.out⟩, B1.out.grown hgrow3 (by simp) (fun q hq => (O1.out.row.lt q hq).1)⟩
  clear hown3 hgrow3 hnil3
  go_ret
  exact FIN.out
end Go.Proofs.Ytligidmkhbcpmac
namespace Go.Proofs.Ytligidmkhbcpmac
set_option linter.unusedVariables false
/-- n numbers: the first k are those of a function, the others 0. -/
def fillL (f : Nat → Int) (n k : Nat) : List Int := (List.range n).map fun y => if y < k then f y else 0
theorem fill_len (f : Nat → Int) (n k : Nat) : (fillL f n k).length = n := by simp [fillL]
theorem fill_at {f : Nat → Int} {n k y : Nat} (hy : y < n) : (fillL f n k).getD y 0 = if y < k then f y else 0 := by
  unfold fillL
  rw [List.getD_eq_getElem?_getD, List.getElem?_map, List.getElem?_range hy]; rfl
theorem fill_zero (f : Nat → Int) (n : Nat) : fillL f n 0 = List.replicate n 0 := by
  apply List.ext_getElem
  · rw [fill_len, List.length_replicate]
  · intro i h1 h2
    simp only [fillL, List.getElem_map, List.getElem_range, List.getElem_replicate]
    rw [if_neg (by omega)]
theorem fill_set {f : Nat → Int} {n k : Nat} (hk : k < n) : (fillL f n k).set k (f k) = fillL f n (k + 1) := by
  apply List.ext_getElem
  · rw [List.length_set, fill_len, fill_len]
  · intro i h1 h2
    rw [List.getElem_set]
    simp only [fillL, List.getElem_map, List.getElem_range]
    by_cases h : k = i
    · subst h; rw [if_pos rfl, if_pos (by omega)]
    · rw [if_neg h]
      by_cases h3 : i < k
      · rw [if_pos h3, if_pos (by omega)]
      · rw [if_neg h3, if_neg (by omega)]
/-- The first k numbers of a function. -/
def preL (f : Nat → Int) (k : Nat) : List Int := (List.range k).map f
theorem pre_len (f : Nat → Int) (k : Nat) : (preL f k).length = k := by simp [preL]
theorem pre_succ (f : Nat → Int) (k : Nat) : preL f (k + 1) = preL f k ++ [f k] := by unfold preL; rw [List.range_succ, List.map_append]; rfl
theorem fill_pre (f : Nat → Int) (n : Nat) : fillL f n n = preL f n := by
  unfold fillL preL
  refine List.map_congr_left fun y hy => ?_
  rw [if_pos (List.mem_range.1 hy)]
end Go.Proofs.Ytligidmkhbcpmac
namespace Go.Proofs.Ytligidmkhbcpmac
open Go.RowKit
set_option linter.unusedVariables false
/-- A balanced list of numbers of at least 0. -/
def lgB (ps ws zs : List Int) : Bool := (procB ps ws zs && steB ps ws zs true) && fromB 0 999 zs
theorem lgB_proc {ps ws zs : List Int} (h : lgB ps ws zs = true) : Proc ps ws zs := by
  unfold lgB at h
  rw [Bool.and_eq_true, Bool.and_eq_true] at h
  exact procB_iff.1 h.1.1
theorem lgB_nn {ps ws zs : List Int} (h : lgB ps ws zs = true) (y : Nat) (hy : y < ps.length) : 0 ≤ zs.getD y 0 := by
  have p := lgB_proc h
  unfold lgB at h
  rw [Bool.and_eq_true] at h
  exact (from_at h.2 (by rw [p.len]; exact hy)).1
def lmV (ps ws zs : List Int) : Value := if lgB ps ws zs = true then seerV ps ws zs else zeroP
theorem seerV_form (ps ws zs : List Int) : ∃ p q ok, seerV ps ws zs = .tuple #[.agg #[.int .i64 p, .int .i64 q], .bool ok] := bbV_form _ _ _ _
theorem lmV_form (ps ws zs : List Int) : ∃ p q ok, lmV ps ws zs = .tuple #[.agg #[.int .i64 p, .int .i64 q], .bool ok] := by
  unfold lmV
  split
  · exact seerV_form ps ws zs
  · exact ⟨_, _, _, rfl⟩
/-- Where the level is reached. -/
def ndL (lv z : Int) : Int := if lv ≤ z then 1 else 0
def mkL (zs : List Int) (lv : Int) : List Int := zs.map (ndL lv)
theorem mkL_len (zs : List Int) (lv : Int) : (mkL zs lv).length = zs.length := by simp [mkL]
theorem mkL_at {zs : List Int} {lv : Int} {y : Nat} (h : y < zs.length) : (mkL zs lv).getD y 0 = ndL lv (zs.getD y 0) := by
  unfold mkL
  rw [List.getD_eq_getElem?_getD, List.getElem?_map, List.getElem?_eq_getElem h, List.getD_eq_getElem?_getD, List.getElem?_eq_getElem h]; rfl
theorem ndL_bd (lv z : Int) : 0 ≤ ndL lv z ∧ ndL lv z ≤ 1 := by unfold ndL; split <;> omega
theorem mkL_proc {ps ws zs : List Int} (p : Proc ps ws zs) (lv : Int) : Proc ps ws (mkL zs lv) :=
  ⟨p.good, by rw [mkL_len]; exact p.len, fun i hi => by rw [mkL_len] at hi; rw [mkL_at hi]; have := ndL_bd lv (zs.getD i 0); omega⟩
theorem ndL_max (lv a b : Int) : ndL lv (maxI a b) = maxI (ndL lv a) (ndL lv b) := by
  unfold ndL maxI
  split <;> split <;> split <;> (try split) <;> omega
def lcB (ps ws zs : List Int) (lv : Int) : Bool := lgB ps ws zs && decide (1 ≤ lv ∧ lv ≤ 999)
def lcV (ps ws zs : List Int) (lv : Int) : Value := if lcB ps ws zs lv = true then seerV ps ws (mkL zs lv) else zeroP
theorem lcV_form (ps ws zs : List Int) (lv : Int) : ∃ p q ok, lcV ps ws zs lv = .tuple #[.agg #[.int .i64 p, .int .i64 q], .bool ok] := by
  unfold lcV
  split
  · exact seerV_form ps ws _
  · exact ⟨_, _, _, rfl⟩
end Go.Proofs.Ytligidmkhbcpmac
namespace Go.Proofs.Ytligidmkhbcpmac
open Go.RowKit
set_option linter.unusedVariables false
set_option maxRecDepth 100000 in
set_option maxHeartbeats 8000000 in
theorem fzI (ps ws zs : List Int) (v u : Value) (w : World) (hn : zs.length ≤ 1048576) (h : TreeV w w.heap.size v ps ws) (hu : IntsV w w.heap.size u zs) :
    Calls Try.prog 87 #[v, u] w (Gives (.bool (lgB ps ws zs)) w) := by
  have BL := Lib.hid (fun w' (hb : Below w.heap.size w w') => balI ps ws zs v u w' hn (h.boxed hb) ((hu.below hb).more hb.size))
  have AF := Lib.hid (fun w' (hb : Below w.heap.size w w') => areFromY zs u 0 999 w' hn ((hu.below hb).more hb.size))
  unfold steV at BL
  obtain ⟨p1, c1, p2, c2, rfl⟩ := h.shape
  obtain ⟨q, d, rfl, _⟩ := hu
  clear h
  unfold lgB
  generalize (procB ps ws zs && steB ps ws zs true) = b1 at *
  generalize procB ps ws zs = b2 at *
  generalize fromB 0 999 zs = b3 at *
  obtain ⟨wa, hwa⟩ : ∃ wa, wa = w.alloc (.cells #[.slice p1 ps.length c1, .slice p2 ws.length c2] 29) := ⟨_, rfl⟩
  have B1 : Below w.heap.size w wa := by rw [hwa]; exact (Below.refl w.heap.size w).alloc (Nat.le_refl _) _
  have T1 := Lib.hid (show TBox wa w.heap.size (.slice p1 ps.length c1) (.slice p2 ws.length c2) from by rw [hwa]; exact alloc_heap w _)
  have HBA := Lib.hid B1
  clear B1
  obtain ⟨x0, x1⟩ := T1.out.cells
  cases b1
  · go_enter Try.func87, Try.ntmps87
    go_wp2_with fail
    rw [← hwa]
    clear hwa
    refine (BL.out _ HBA.out).mono ?_
    rintro e w1 ⟨rfl, b1⟩
    have HB1 := Lib.hid (HBA.out.trans (b1.mono HBA.out.size))
    clear b1
    go_wp2_with fail
    go_ret
    exact ⟨rfl, HB1.out⟩
  · go_enter Try.func87, Try.ntmps87
    go_wp2_with fail
    rw [← hwa]
    clear hwa
    refine (BL.out _ HBA.out).mono ?_
    rintro e w1 ⟨rfl, b1⟩
    have HB1 := Lib.hid (HBA.out.trans (b1.mono HBA.out.size))
    clear b1
    go_wp2_with fail
    refine (AF.out _ HB1.out).mono ?_
    rintro e w2 ⟨rfl, b2⟩
    have HB2 := Lib.hid (HB1.out.trans (b2.mono HB1.out.size))
    clear b2
    go_wp2_with fail
    go_ret
    exact ⟨rfl, HB2.out⟩
set_option maxRecDepth 100000 in
set_option maxHeartbeats 8000000 in
theorem lmI (ps ws zs : List Int) (v u : Value) (w : World) (hn : zs.length ≤ 1048576) (h : TreeV w w.heap.size v ps ws) (hu : IntsV w w.heap.size u zs) :
    Calls Try.prog 16 #[v, u] w (Gives (lmV ps ws zs) w) := by
  have FZ := Lib.hid (fun w' (hb : Below w.heap.size w w') => fzI ps ws zs v u w' hn (h.boxed hb) ((hu.below hb).more hb.size))
  have SE := Lib.hid (fun w' (hb : Below w.heap.size w w') => seerI ps ws zs v u w' hn (h.boxed hb) ((hu.below hb).more hb.size))
  obtain ⟨N, D, ok, hV⟩ := seerV_form ps ws zs
  rw [hV] at SE
  have LV := Lib.hid (show lmV ps ws zs = if lgB ps ws zs = true then .tuple #[.agg #[.int .i64 N, .int .i64 D], .bool ok] else zeroP by unfold lmV; rw [hV])
  rw [LV.out]
  clear LV hV
  obtain ⟨p1, c1, p2, c2, rfl⟩ := h.shape
  obtain ⟨q, d, rfl, _⟩ := hu
  clear h
  obtain ⟨wa, hwa⟩ : ∃ wa, wa = (w.alloc (.cells #[.slice p1 ps.length c1, .slice p2 ws.length c2] 29)).alloc (.cells #[.int .i64 0, .int .i64 0] 26) := ⟨_, rfl⟩
  have B1 : Below w.heap.size w wa := by rw [hwa]; exact ((Below.refl w.heap.size w).alloc (Nat.le_refl _) _).alloc (by simp) _
  obtain ⟨k0, k1⟩ := alloc_two w (.cells #[.slice p1 ps.length c1, .slice p2 ws.length c2] 29) (.cells #[.int .i64 0, .int .i64 0] 26)
  rw [← hwa] at k0 k1
  have T1 := Lib.hid (show TBox wa w.heap.size (.slice p1 ps.length c1) (.slice p2 ws.length c2) from k0)
  have R1 := Lib.hid (show QBox wa (w.heap.size + 1) 0 0 from k1)
  have HBA := Lib.hid B1
  clear B1 k0 k1
  obtain ⟨x0, x1⟩ := T1.out.cells
  cases hg : lgB ps ws zs
  · rw [if_neg (by decide)]
    rw [hg] at FZ
    unfold zeroP
    clear hg
    go_enter Try.func16, Try.ntmps16
    go_wp2_with fail
    rw [← hwa]
    clear hwa
    refine (FZ.out _ HBA.out).mono ?_
    rintro e w1 ⟨rfl, b1⟩
    have HB1 := Lib.hid (HBA.out.trans (b1.mono HBA.out.size))
    have R2 := Lib.hid (R1.out.below b1 R1.out.lt)
    have T2 := Lib.hid (T1.out.below b1 T1.out.lt)
    clear b1 x0 x1
    obtain ⟨⟨r0, r1⟩, f0, f1⟩ := R2.out.cells
    go_wp2_with fail
    refine bodyPost_ret (v := .tuple #[.agg #[.int .i64 0, .int .i64 0], .bool false]) (by simp [results, Try.results16, go_sem, r0, r1]) rfl ⟨rfl, ?_⟩
    exact (HB1.out.setCell (p := ⟨w.heap.size + 1, 0, none⟩) (by simp) _).setCell (p := ⟨w.heap.size + 1, 1, none⟩) (by simp) _
  · rw [if_pos rfl]
    rw [hg] at FZ
    clear hg
    go_enter Try.func16, Try.ntmps16
    go_wp2_with fail
    rw [← hwa]
    clear hwa
    refine (FZ.out _ HBA.out).mono ?_
    rintro e w1 ⟨rfl, b1⟩
    have HB1 := Lib.hid (HBA.out.trans (b1.mono HBA.out.size))
    have R2 := Lib.hid (R1.out.below b1 R1.out.lt)
    have T2 := Lib.hid (T1.out.below b1 T1.out.lt)
    clear b1 x0 x1
    obtain ⟨x0, x1⟩ := T2.out.cells
    go_wp2_with fail
    refine (SE.out _ HB1.out).mono ?_
    rintro e w2 ⟨rfl, b2⟩
    have HB2 := Lib.hid (HB1.out.trans (b2.mono HB1.out.size))
    obtain ⟨⟨r0, r1⟩, f0, f1⟩ := (R2.out.below b2 R2.out.lt).cells
    clear b2
    go_wp2_with fail
    refine bodyPost_ret (v := .tuple #[.agg #[.int .i64 N, .int .i64 D], .bool ok]) (by simp [results, Try.results16, go_sem, r0, r1]) rfl ⟨rfl, ?_⟩
    exact (HB2.out.setCell (p := ⟨w.heap.size + 1, 0, none⟩) (by simp) _).setCell (p := ⟨w.heap.size + 1, 1, none⟩) (by simp) _
theorem setAltG (w : World) (g k : Nat) (x : Value) (q : Nat) (h : q ≠ g) : (w.setCell ⟨g, k, none⟩ x).heap[q]? = w.heap[q]? := Below.heap_setCell w ⟨g, k, none⟩ x q h
theorem set_none {zs : List Int} {i : Nat} (h : zs.getD i 0 = 0) : zs.set i 0 = zs := by
  refine List.ext_getElem (by simp) (fun j h1 h2 => ?_)
  rw [List.getElem_set]
  split
  · next e => subst e; rw [List.getD_eq_getElem?_getD, List.getElem?_eq_getElem h2] at h; exact h.symm
  · rfl
theorem mk_fill (zs : List Int) (lv : Int) : fillL (fun y => ndL lv (zs.getD y 0)) zs.length zs.length = mkL zs lv := by
  apply List.ext_getElem
  · rw [fill_len, mkL_len]
  · intro i h1 h2
    rw [fill_len] at h1
    have a := fill_at (f := fun y => ndL lv (zs.getD y 0)) (k := zs.length) h1
    have b := mkL_at (lv := lv) h1
    rw [if_pos h1] at a
    rw [List.getD_eq_getElem?_getD, List.getElem?_eq_getElem (by rw [fill_len]; exact h1)] at a
    rw [List.getD_eq_getElem?_getD, List.getElem?_eq_getElem (by rw [mkL_len]; exact h1)] at b
    exact a.trans b.symm
set_option maxRecDepth 100000 in
set_option maxHeartbeats 8000000 in
theorem lcI (ps ws zs : List Int) (lv : Int) (v u : Value) (w : World) (hn : zs.length ≤ 1048576) (h : TreeV w w.heap.size v ps ws) (hu : IntsV w w.heap.size u zs) :
    Calls Try.prog 21 #[v, u, .int .i64 lv] w (Gives (lcV ps ws zs lv) w) := by
  have FZ := Lib.hid (fun w' (hb : Below w.heap.size w w') => fzI ps ws zs v u w' hn (h.boxed hb) ((hu.below hb).more hb.size))
  have SE := Lib.hid (fun w' x (hb : Below w.heap.size w w') (hx : IntsV w' w'.heap.size x (mkL zs lv)) => seerI ps ws (mkL zs lv) v x w' (by rw [mkL_len]; exact hn) (h.boxed hb) hx)
  have FI := Lib.hid (fun w => fromY lv 1 999 w)
  obtain ⟨N, D, ok, hV⟩ := seerV_form ps ws (mkL zs lv)
  rw [hV] at SE
  have LV := Lib.hid (show lcV ps ws zs lv = if lcB ps ws zs lv = true then .tuple #[.agg #[.int .i64 N, .int .i64 D], .bool ok] else zeroP by unfold lcV; rw [hV])
  rw [LV.out]
  clear LV hV
  have ZL := Lib.hid (fun (hg : lgB ps ws zs = true) => (lgB_proc hg).len)
  have ZG := Lib.hid (fun (hg : lgB ps ws zs = true) => (lgB_proc hg).good.n24)
  obtain ⟨p1, c1, p2, c2, rfl⟩ := h.shape
  obtain ⟨q, d, rfl, _, _, _, iz⟩ := hu
  have EZ := Lib.hid iz
  clear h iz
  obtain ⟨wa, hwa⟩ : ∃ wa, wa = (w.alloc (.cells #[.slice p1 ps.length c1, .slice p2 ws.length c2] 29)).alloc (.cells #[.int .i64 0, .int .i64 0] 26) := ⟨_, rfl⟩
  have B1 : Below w.heap.size w wa := by rw [hwa]; exact ((Below.refl w.heap.size w).alloc (Nat.le_refl _) _).alloc (by simp) _
  obtain ⟨k0, k1⟩ := alloc_two w (.cells #[.slice p1 ps.length c1, .slice p2 ws.length c2] 29) (.cells #[.int .i64 0, .int .i64 0] 26)
  rw [← hwa] at k0 k1
  have T1 := Lib.hid (show TBox wa w.heap.size (.slice p1 ps.length c1) (.slice p2 ws.length c2) from k0)
  have R1 := Lib.hid (show QBox wa (w.heap.size + 1) 0 0 from k1)
  have HBA := Lib.hid B1
  clear B1 k0 k1
  obtain ⟨x0, x1⟩ := T1.out.cells
  cases hg : lgB ps ws zs
  · have EB : lcB ps ws zs lv = false := by unfold lcB; rw [hg]; rfl
    rw [EB, if_neg (by decide)]
    clear EB
    rw [hg] at FZ
    unfold zeroP
    clear hg
    go_enter Try.func21, Try.ntmps21
    go_wp2_with fail
    rw [← hwa]
    clear hwa
    refine (FZ.out _ HBA.out).mono ?_
    rintro e w1 ⟨rfl, b1⟩
    have HB1 := Lib.hid (HBA.out.trans (b1.mono HBA.out.size))
    have R2 := Lib.hid (R1.out.below b1 R1.out.lt)
    have T2 := Lib.hid (T1.out.below b1 T1.out.lt)
    clear b1 x0 x1
    obtain ⟨⟨r0, r1⟩, f0, f1⟩ := R2.out.cells
    go_wp2_with fail
    refine bodyPost_ret (v := .tuple #[.agg #[.int .i64 0, .int .i64 0], .bool false]) (by simp [results, Try.results21, go_sem, r0, r1]) rfl ⟨rfl, ?_⟩
    exact (HB1.out.setCell (p := ⟨w.heap.size + 1, 0, none⟩) (by simp) _).setCell (p := ⟨w.heap.size + 1, 1, none⟩) (by simp) _
  have n24 := ZG.out hg
  have zl := ZL.out hg
  have z24 : zs.length ≤ 24 := by omega
  by_cases hl : 1 ≤ lv ∧ lv ≤ 999
  · have EB : lcB ps ws zs lv = true := by unfold lcB; rw [hg, decide_eq_true hl]; rfl
    rw [EB, if_pos rfl]
    clear EB
    rw [hg] at FZ
    rw [decide_eq_true hl] at FI
    obtain ⟨l1, l2⟩ := hl
    clear hg ZL ZG zl n24
    obtain ⟨t0, hi, hz0, hz1, hz2⟩ := info_parts intInfo
    have d1 : t0.bytes * zs.length ≤ 281474976710656 := by rw [hz2]; omega
    have d2 : zs.length ≤ maxLen := by unfold maxLen; omega
    have FS := Lib.hid (fun k hk => fill_set (f := fun y => ndL lv (zs.getD y 0)) (n := zs.length) (k := k) hk)
    have FZ0 := Lib.hid (fill_zero (fun y => ndL lv (zs.getD y 0)) zs.length)
    have FA := Lib.hid (fun k (hk : k < zs.length) => fill_at (f := fun y => ndL lv (zs.getD y 0)) (k := k) hk)
    have MF := Lib.hid (mk_fill zs lv)
    go_enter Try.func21, Try.ntmps21
    go_wp2_with fail
    rw [← hwa]
    clear hwa
    refine (FZ.out _ HBA.out).mono ?_
    rintro e w1 ⟨rfl, b1⟩
    have HB1 := Lib.hid (HBA.out.trans (b1.mono HBA.out.size))
    have R2 := Lib.hid (R1.out.below b1 R1.out.lt)
    have T2 := Lib.hid (T1.out.below b1 T1.out.lt)
    clear b1 x0 x1
    go_wp2_with fail
    refine (FI.out _).mono ?_
    rintro e w2 ⟨rfl, rfl⟩
    go_wp2_with (at_make; refine wpList_make_full _ rfl _ _ 22 rfl w1.heap.size 3 t0 (.int .i64 0) 1 Try.underlying22 hi hz0 hz1 .i64 .i64 _ _ zs.length rfl rfl rfl rfl d1 d2 (Nat.le_refl _) ?_; intro w3 hown hgr)
    have b3 : Below w1.heap.size w1 w3 := (Below.refl _ _).grown hgr (Nat.le_refl _) (by simp)
    have o3 : OwnV w3 w1.heap.size w3.heap.size (.slice (some ⟨w1.heap.size, 0, none⟩) zs.length zs.length) (List.replicate zs.length 0) := by
      have h2 := hown
      rw [show (Value.int .i64 0).cells = #[Value.int .i64 0] from rfl, Nat.mul_one, toList_madeCells_one] at h2
      exact OwnV.made (by simpa using h2)
    rw [← FZ0.out] at o3
    have HB3 := Lib.hid (HB1.out.trans (b3.mono HB1.out.size))
    have R3 := Lib.hid (R2.out.below b3 R2.out.lt)
    have T3 := Lib.hid (T2.out.below b3 T2.out.lt)
    have RL := Lib.hid (show w.heap.size + 1 < w1.heap.size from R2.out.lt)
    have HB13 := Lib.hid b3
    obtain ⟨g, hg⟩ : ∃ g, g = w1.heap.size := ⟨_, rfl⟩
    rw [← hg] at o3 RL ⊢
    have O3 := Lib.hid o3.tight
    have HGL := Lib.hid (show g + 1 ≤ w3.heap.size from o3.tight.room)
    clear hown hgr o3 b3 R2 T2 FZ0 hg HB13 d1 hi hz0 hz1 hz2
    go_wp2_with fail
    go_loopg [26] zs.length (fun gg i wr => ∃ k : Nat, k ≤ zs.length ∧ zs.length - k ≤ gg ∧ i = .int .i64 k ∧ Hid (OwnV wr g (g + 1) (.slice (some ⟨g, 0, none⟩) zs.length zs.length) (fillL (fun y => ndL lv (zs.getD y 0)) zs.length k)) ∧ Hid (Below w.heap.size w wr) ∧ Hid (QBox wr (w.heap.size + 1) 0 0) ∧ Hid (TBox wr w.heap.size (.slice p1 ps.length c1) (.slice p2 ws.length c2)))
    case atStart => exact ⟨0, Nat.zero_le _, by omega, rfl, O3, HB3, R3, T3⟩
    case round =>
      clear O3 HB3 R3 T3 HB1 HGL
      obtain ⟨k, hk, hgg, rfl, HO, HB, HR, HT⟩ := hrel
      by_cases hlt : k < zs.length
      · obtain ⟨b, off, rfl, hb, hc⟩ := EZ.out.get hlt
        have hcw : wr.cell? ⟨b, off + k, none⟩ = some (.int .i64 (zs.getD k 0)) := by rw [HB.out.cell (p := ⟨b, off + k, none⟩) hb]; exact hc
        have i0 : (0 : Int) ≤ (k : Int) := by omega
        have i1 : (k : Int) < (zs.length : Int) := by omega
        have fs := FS.out k hlt
        have old := HO.out.cellGet (j := k) (by rw [fill_len]; exact hlt)
        have oz := FA.out k hlt
        rw [if_neg (by omega)] at oz
        rw [oz] at old
        have f1 := HO.out.frozenGet k
        obtain ⟨z, hz⟩ : ∃ z, z = zs.getD k 0 := ⟨_, rfl⟩
        rw [← hz] at hcw fs
        clear hc hz hb oz
        by_cases hlv : lv ≤ z
        · rw [show ndL lv z = 1 from if_pos hlv] at fs
          have HO2 := Lib.hid (HO.out.setAt k (x := 1) (by unfold InI64; omega))
          rw [fs] at HO2
          have HB2 := Lib.hid (HB.out.setCell (p := ⟨g, k, none⟩) (by have := RL.out; show w.heap.size ≤ g; omega) (.int .i64 1))
          have A2 := setAltG wr g k (.int .i64 1)
          have HR2 := Lib.hid (show QBox (wr.setCell ⟨g, k, none⟩ (.int .i64 1)) (w.heap.size + 1) 0 0 from (A2 _ (by have := RL.out; omega)).trans HR.out)
          have HT2 := Lib.hid (show TBox (wr.setCell ⟨g, k, none⟩ (.int .i64 1)) w.heap.size _ _ from (A2 _ (by have := RL.out; omega)).trans HT.out)
          clear fs A2 HO HB HR HT
          go_wp2_with fail
          go_roundg (zs.length - (k + 1))
          case rel => exact ⟨k + 1, by omega, by omega, by go_num, HO2, HB2, HR2, HT2⟩
          case measure => omega
        · rw [show ndL lv z = 0 from if_neg hlv] at fs
          have HO2 : Hid (OwnV wr g (g + 1) (.slice (some ⟨g, 0, none⟩) zs.length zs.length) (fillL (fun y => ndL lv (zs.getD y 0)) zs.length (k + 1))) := Lib.hid (by
            rw [← fs, set_none (by rw [FA.out k hlt, if_neg (by omega)])]; exact HO.out)
          have hlv2 : z < lv := by omega
          clear fs HO
          go_wp2_with fail
          go_roundg (zs.length - (k + 1))
          case rel => exact ⟨k + 1, by omega, by omega, by go_num, HO2, HB, HR, HT⟩
          case measure => omega
      · have hkz : k = zs.length := by omega
        have OM : OwnV wr g (g + 1) (.slice (some ⟨g, 0, none⟩) zs.length zs.length) (mkL zs lv) := by rw [← MF.out]; have h := HO.out; rw [hkz] at h; exact h
        have SC := Lib.hid (SE.out wr _ HB.out (OM.intsV.more OM.room))
        obtain ⟨x0, x1⟩ := HT.out.cells
        clear hkz OM HO SE FS FA MF
        go_wp2_with fail
        refine SC.out.mono ?_
        rintro e w5 ⟨rfl, b5⟩
        have HB5 := Lib.hid (HB.out.trans (b5.mono HB.out.size))
        obtain ⟨⟨r0, r1⟩, f0, f1⟩ := (HR.out.below b5 HR.out.lt).cells
        clear b5
        go_wp2_with fail
        refine bodyPost_ret (v := .tuple #[.agg #[.int .i64 N, .int .i64 D], .bool ok]) (by simp [results, Try.results21, go_sem, r0, r1]) rfl ⟨rfl, ?_⟩
        exact (HB5.out.setCell (p := ⟨w.heap.size + 1, 0, none⟩) (by simp) _).setCell (p := ⟨w.heap.size + 1, 1, none⟩) (by simp) _
  · have EB : lcB ps ws zs lv = false := by unfold lcB; rw [decide_eq_false hl, Bool.and_false]
    rw [EB, if_neg (by decide)]
    clear EB
    rw [hg] at FZ
    rw [decide_eq_false hl] at FI
    unfold zeroP
    clear hg hl ZL ZG n24 zl z24
    go_enter Try.func21, Try.ntmps21
    go_wp2_with fail
    rw [← hwa]
    clear hwa
    refine (FZ.out _ HBA.out).mono ?_
    rintro e w1 ⟨rfl, b1⟩
    have HB1 := Lib.hid (HBA.out.trans (b1.mono HBA.out.size))
    have R2 := Lib.hid (R1.out.below b1 R1.out.lt)
    have T2 := Lib.hid (T1.out.below b1 T1.out.lt)
    clear b1 x0 x1
    go_wp2_with fail
    refine (FI.out _).mono ?_
    rintro e w2 ⟨rfl, rfl⟩
    obtain ⟨⟨r0, r1⟩, f0, f1⟩ := R2.out.cells
    go_wp2_with fail
    refine bodyPost_ret (v := .tuple #[.agg #[.int .i64 0, .int .i64 0], .bool false]) (by simp [results, Try.results21, go_sem, r0, r1]) rfl ⟨rfl, ?_⟩
    exact (HB1.out.setCell (p := ⟨w.heap.size + 1, 0, none⟩) (by simp) _).setCell (p := ⟨w.heap.size + 1, 1, none⟩) (by simp) _
end Go.Proofs.Ytligidmkhbcpmac
namespace Go.Proofs.Ytligidmkhbcpmac
open Go.RowKit
set_option linter.unusedVariables false
theorem high_fold0 {ps ws zs : List Int} (p : Proc ps ws zs) (nn : ∀ y, y < ps.length → 0 ≤ zs.getD y 0) {x : Nat} (hx : x < ps.length) : (wayT ps (x : Int)).foldl (fun a y => maxI a (zs.getD y.toNat 0)) (0 : Int) = (highT ps zs).getD x 0 := by
  have hp := ParOk.of p.good
  have h1 := high_fold p hx
  have w := way_all hp x hx
  have hb := nn 0 (by have := p.good.n1; omega)
  have hf := w.first
  have hl := w.len
  rw [← h1]
  cases hW : wayT ps (x : Int) with
  | nil => rw [hW] at hl; simp at hl
  | cons a R =>
    rw [hW] at hf
    simp at hf
    subst hf
    rw [List.foldl_cons, List.foldl_cons]
    congr 1
    simp only [Int.toNat_zero]
    unfold maxI
    split <;> split <;> omega
/-- Without numbers below 0 the bound of zeros tells the greatest numbers. -/
theorem bnd_high {ps ws zs : List Int} (p : Proc ps ws zs) : bndE ps zs (List.replicate zs.length 0) = highE ps zs := by
  have q := proc_zeros p.good
  have hl := p.len
  unfold bndE highE
  refine List.map_congr_left (fun e he => ?_)
  rw [getD_zeros, Int.add_zero]
  have hx : ∃ x : Nat, e = (x : Int) ∧ x < ps.length := by
    obtain ⟨i, hi, e1⟩ := List.getElem_of_mem he
    obtain ⟨x, h1, h2, _⟩ := ends_in hi
    refine ⟨x, ?_, h2⟩
    rw [List.getD_eq_getElem?_getD, List.getElem?_eq_getElem hi] at h1
    rw [← e1]; exact h1.symm
  obtain ⟨x, rfl, hx⟩ := hx
  rw [Int.toNat_natCast]
  have q2 : Proc ps ws (List.replicate zs.length 0) := by rw [hl]; exact q
  have f1 := bnd_fold p q2 hx
  have f2 := high_fold p hx
  rw [← f1, ← f2]
  simp only [getD_zeros, Int.sub_zero]
set_option maxRecDepth 100000 in
set_option maxHeartbeats 4000000 in
theorem peaksS (ps ws zs : List Int) (v u : Value) (w : World) (pr : Proc ps ws zs) (nn : ∀ y, y < ps.length → 0 ≤ zs.getD y 0) (h : TreeV w w.heap.size v ps ws) (hu : IntsV w w.heap.size u zs) :
    Calls Try.prog 86 #[v, u] w (NewInts (highE ps zs) w) := by
  have EN := Lib.hid (fun (gd : Good ps ws) w' (hb : Below w.heap.size w w') => endsS ps ws v w' (h.boxed hb) gd.n24 (parAll gd))
  have WY := Lib.hid (fun (gd : Good ps ws) w' (hb : Below w.heap.size w w') (x : Nat) (hx : x < ps.length) => wayS ps ws v x w' gd hx (h.boxed hb))
  obtain ⟨p1, c1, p2, c2, rfl⟩ := h.shape
  obtain ⟨q, d, rfl, _, _, _, j1⟩ := hu
  have Q1 := Lib.hid j1
  clear h j1
  obtain ⟨i0, hi, hz0, hz1, hz2⟩ := info_parts intInfo
  have B1 := ((Below.refl w.heap.size w).alloc (Nat.le_refl _) (.cells #[.slice p1 ps.length c1, .slice p2 ws.length c2] 29)).alloc (by simp) (.cells #[] 3)
  have T1 := Lib.hid (TBox.alloc (show TBox (w.alloc (.cells #[.slice p1 ps.length c1, .slice p2 ws.length c2] 29)) w.heap.size (.slice p1 ps.length c1) (.slice p2 ws.length c2) from alloc_heap w _) (.cells #[] 3))
  have O1 := Lib.hid (OwnV.empty (w.alloc (.cells #[.slice p1 ps.length c1, .slice p2 ws.length c2] 29)) (w.heap.size + 1) (by simp))
  rw [show (w.alloc (.cells #[.slice p1 ps.length c1, .slice p2 ws.length c2] 29)).heap.size = w.heap.size + 1 by simp] at O1
  obtain ⟨x0, x1⟩ := T1.out.cells
  obtain ⟨wa, hwa⟩ : ∃ wa, wa = (w.alloc (.cells #[.slice p1 ps.length c1, .slice p2 ws.length c2] 29)).alloc (.cells #[] 3) := ⟨_, rfl⟩
  rw [← hwa] at B1 T1 O1
  have sz : wa.heap.size = w.heap.size + 2 := by rw [hwa]; simp
  have SZ := Lib.hid sz
  have HBA := Lib.hid B1
  clear B1 sz
  · have PR := Lib.hid pr
    have gd := PR.out.good
    have hn24 := gd.n24
    have hn0 := gd.n1
    have ZL := Lib.hid PR.out.len
    have EN2 := Lib.hid (EN.out gd)
    have WY2 := Lib.hid (WY.out gd)
    have EP := ends_pos gd
    have hel := Nat.le_trans (ends_le ps) hn24
    have EI := Lib.hid (fun i (hi : i < (endsT ps).length) => ends_in hi)
    have WW := Lib.hid (fun x (hx : x < ps.length) => way_all (ParOk.of gd) x hx)
    have FO := Lib.hid (fun (x : Nat) (hx : x < ps.length) => high_fold0 PR.out nn hx)
    have HB' := Lib.hid (fun (x : Nat) (hx : x < ps.length) => high_bd PR.out x hx)
    have HEA := Lib.hid (fun k (hk : k < (endsT ps).length) => map_at (E := endsT ps) (fun e => (highT ps zs).getD e.toNat 0) hk)
    have HEL : Hid ((highE ps zs).length = (endsT ps).length) := Lib.hid (by unfold highE; rw [List.length_map])
    have NXT := Lib.hid (fun k (hk : k < (highE ps zs).length) => take_next hk)
    have ALL : Hid (∀ k, (endsT ps).length ≤ k → (highE ps zs).take k = highE ps zs) := Lib.hid (fun k hk => List.take_of_length_le (by rw [HEL.out]; exact hk))
    have HEG : Hid (∀ k (x : Nat), k < (endsT ps).length → (x : Int) = (endsT ps).getD k 0 → (highE ps zs).getD k 0 = (highT ps zs).getD x 0) := Lib.hid (fun k x hk hx => by
      have := HEA.out k hk
      rw [← hx, Int.toNat_natCast] at this
      exact this)
    clear EN WY gd HEA nn pr
    obtain ⟨HE, hHE⟩ : ∃ HE, HE = highE ps zs := ⟨_, rfl⟩
    rw [← hHE] at HEL NXT ALL HEG ⊢
    obtain ⟨E, hE⟩ : ∃ E, E = endsT ps := ⟨_, rfl⟩
    rw [← hE] at EN2 EP hel EI HEL ALL HEG
    clear hE hHE
    go_enter Try.func86, Try.ntmps86
    go_wp2_with fail
    rw [← hwa]
    clear hwa
    have HB1 := HBA
    have HT1 := T1
    have HO1 := Lib.hid O1.out
    obtain ⟨w1, hw1⟩ : ∃ x, x = wa := ⟨_, rfl⟩
    rw [← hw1] at HB1 HT1 HO1 SZ ⊢
    have SZ1 := SZ
    clear hw1
    refine (EN2.out _ HB1.out).mono ?_
    rintro e w2 ⟨ue, rfl, o2, b2⟩
    obtain ⟨g, ce, rfl, hg1, hg2⟩ := o2.shape EP
    have HB2 := Lib.hid (HB1.out.trans (b2.mono HB1.out.size))
    have HT2 := Lib.hid (HT1.out.below b2 HT1.out.lt)
    have HO2 := Lib.hid (HO1.out.below b2)
    have OE := Lib.hid o2
    have W1 : Hid (w.heap.size + 1 ≤ w1.heap.size) := Lib.hid (by have := HT1.out.lt; omega)
    have W12 := Lib.hid b2.size
    clear b2 o2 x0 x1 hg1 hg2 HB1 HT1 HO1 T1 O1 HBA
    have O3 := Lib.hid (HO2.out.wide W12.out (by have := OE.out.room; omega))
    have O4 := Lib.hid ((HO2.out.wide W12.out (Nat.le_refl _)))
    have DC := Lib.hid (fun j (hj : j < E.length) => OE.out.cellGet (j := j) hj)
    have Gw : Hid (w1.heap.size ≤ g ∧ g < w2.heap.size) := Lib.hid (by
      rcases OE.out.row.2 with ⟨h, _⟩ | ⟨g', cap', cur, h1, h2, _⟩
      · cases h
      · injection h1 with h1 h3 h4; injection h1 with h1; injection h1 with h1
        subst h1
        exact ⟨h2, OE.out.lt g rfl⟩)
    have SZ0 : Hid (w.heap.size + 1 < w1.heap.size) := Lib.hid (HO2.out.lt _ rfl)
    clear HO2 OE O3
    go_wp2
    go_loopg [5, 7] E.length (fun gg o i wr => ∃ k : Nat, k ≤ E.length ∧ E.length - k ≤ gg ∧ i = .int .i64 k ∧ Hid (OwnV wr (w.heap.size + 1) wr.heap.size o (HE.take k)) ∧ Hid (∀ q, o.ownBlock = some q → q ≠ g) ∧ Hid (∀ j, j < E.length → wr.cell? ⟨g, j, none⟩ = some (.int .i64 (E.getD j 0))) ∧ Hid (g < wr.heap.size) ∧ Hid (TBox wr w.heap.size (.slice p1 ps.length c1) (.slice p2 ws.length c2)) ∧ Hid (Below w.heap.size w wr))
    case atStart => exact ⟨0, Nat.zero_le _, by omega, rfl, O4, Lib.hid (fun q hq => by simp [Value.ownBlock] at hq; have := Gw.out; have := SZ0.out; omega), DC, Lib.hid Gw.out.2, HT2, HB2⟩
    case round =>
      obtain ⟨k, hk, hgg, rfl, HO, HQ, HDC, HG, HT, HB⟩ := hrel
      clear O4 DC HT2 HB2
      by_cases hlt : k < E.length
      · obtain ⟨x, hx, hxl, _⟩ := EI.out k hlt
        have hce := HDC.out k hlt
        have HV := Lib.hid (HEG.out k x hlt hx)
        rw [← hx] at hce
        have W := Lib.hid (WW.out x hxl)
        have FX := Lib.hid (FO.out x hxl)
        have HX := Lib.hid (HB'.out x hxl)
        have NX := Lib.hid (NXT.out k (by have := HEL.out; omega))
        have LL : (HE.take k).length ≤ 24 := by rw [List.length_take]; omega
        have C : Hid (∀ w', Hid (Below wr.heap.size wr w') → Calls Try.prog 161 #[.agg #[.slice p1 ps.length c1, .slice p2 ws.length c2], .int .i64 (x : Int)] w' (NewInts (wayT ps (x : Int)) w')) := Lib.hid (fun w' hb => WY2.out w' (hb_full HB hb) x hxl)
        have KC : Hid (∀ w', Hid (Below wr.heap.size wr w') → w'.cell? ⟨w.heap.size, 0, none⟩ = some (.slice p1 ps.length c1) ∧ w'.cell? ⟨w.heap.size, 1, none⟩ = some (.slice p2 ws.length c2) ∧ w'.cell? ⟨g, k, none⟩ = some (.int .i64 (x : Int))) := Lib.hid (fun w' hb => ⟨(HT.out.below hb.out HT.out.lt).cells.1, (HT.out.below hb.out HT.out.lt).cells.2, (hb.out.cell (p := ⟨g, k, none⟩) HG.out).trans hce⟩)
        have HD : Hid (Below wr.heap.size wr wr.drew) := Lib.hid (below_drew (Below.refl _ _))
        obtain ⟨x0, x1⟩ := HT.out.cells
        have i0' : (0 : Int) ≤ (k : Int) := by omega
        have i1 : (k : Int) < (E.length : Int) := by omega
        obtain ⟨L, hL⟩ : ∃ L, L = wayT ps (x : Int) := ⟨_, rfl⟩
        have WP : Hid (0 < L.length ∧ L.length ≤ 24) := Lib.hid (by rw [hL]; have := W.out.len; omega)
        have WN : Hid (∀ j, j < L.length → 0 ≤ L.getD j 0 ∧ L.getD j 0 < (ps.length : Int)) := Lib.hid (fun j hj => by rw [hL] at hj ⊢; have := W.out.node j hj; omega)
        rw [← hL] at C FX
        clear hL hx hce
        obtain ⟨HK, hHK⟩ : ∃ HK, HK = HE.take k := ⟨_, rfl⟩
        rw [← hHK] at HO NX LL
        rw [HV.out] at NX
        clear hHK
        go_wp2_with fail
        go_region_held3 (fun w' => w'.cell? ⟨w.heap.size, 0, none⟩ = some (.slice p1 ps.length c1) ∧ w'.cell? ⟨w.heap.size, 1, none⟩ = some (.slice p2 ws.length c2) ∧ w'.cell? ⟨g, k, none⟩ = some (.int .i64 (x : Int)))
          (first | exact KC.out _ HD | exact KC.out _ (by assumption) | go_keep)
          (first
            | (go_at_call 161; (with_reducible refine (C.out _ (by first | exact HD | assumption)).mono ?_); rintro e w3 ⟨u3, rfl, o3, b3⟩; (have HE3 := hb_next (wa := wr) (by first | exact HD | assumption) b3); (obtain ⟨gw, cw, rfl, _, hgw⟩ := o3.shape WP.out.1); (have DW := Lib.hid (fun j (hj : j < L.length) => o3.cellGet (j := j) hj)); clear b3 o3 hgw))
        all_goals
          have HB3 := Lib.hid (hb_full HB HE3)
          have HO3 := Lib.hid ((HO.out.below HE3.out).wide HE3.out.size (Nat.le_refl _))
          have HT3 := Lib.hid (HT.out.below HE3.out HT.out.lt)
          have HG3 : Hid (g < w3.heap.size) := Lib.hid (Nat.lt_of_lt_of_le HG.out HE3.out.size)
          have HDC3 : Hid (∀ j, j < E.length → w3.cell? ⟨g, j, none⟩ = some (.int .i64 (E.getD j 0))) := Lib.hid (fun j hj => (HE3.out.cell (p := ⟨g, j, none⟩) HG.out).trans (HDC.out j hj))
          have ZC : Hid (∃ b off, q = some ⟨b, off, none⟩ ∧ ∀ y : Nat, y < ps.length → w3.cell? ⟨b, off + y, none⟩ = some (.int .i64 (zs.getD y 0))) := Lib.hid (by
            obtain ⟨b, off, hq, hb, _⟩ := Q1.out.get (i := 0) (by have := ZL.out; omega)
            refine ⟨b, off, hq, fun y hy => ?_⟩
            obtain ⟨b', off', hq', hb', hc'⟩ := Q1.out.get (i := y) (by have := ZL.out; omega)
            rw [hq] at hq'
            injection hq' with hq'
            injection hq' with h1 h2
            subst h1; subst h2
            rw [HB3.out.cell (p := ⟨b, off + y, none⟩) hb', hc'])
          obtain ⟨bz, oz, hqz, hcz⟩ := ZC.out
          subst hqz
          have HCZ := Lib.hid hcz
          have le1 : zs.length ≤ ps.length := by have := ZL.out; omega
          have le2 : ps.length ≤ zs.length := by have := ZL.out; omega
          have zp : (0 : Int) < (zs.length : Int) := by omega
          have wl := WP.out
          clear HO HT HG HDC HB HD KC C hcz ZC x0 x1
          go_wp2_with fail
          go_loopg [8, 10] L.length (fun gi m j wi => ∃ kk : Nat, kk ≤ L.length ∧ L.length - kk ≤ gi ∧ j = .int .i64 kk ∧ m = .int .i64 ((L.take kk).foldl (fun a y => maxI a (zs.getD y.toNat 0)) (0 : Int)) ∧ wi = w3)
          case atStart => exact ⟨0, Nat.zero_le _, by omega, rfl, rfl, rfl⟩
          case round =>
            obtain ⟨kk, hkk, hgi, rfl, rfl, rfl⟩ := hrel
            by_cases hkl : kk < L.length
            · obtain ⟨n0, n1⟩ := WN.out kk hkl
              have hw := DW.out kk hkl
              have FT := Lib.hid (fold_take (f := fun a y => maxI a (zs.getD y.toNat 0)) (a := (0 : Int)) hkl)
              obtain ⟨y, hy⟩ : ∃ y : Nat, (y : Int) = L.getD kk 0 := ⟨(L.getD kk 0).toNat, by omega⟩
              rw [← hy] at hw FT n0 n1
              have hzy := HCZ.out y (by omega)
              simp only [Int.toNat_natCast] at FT
              have i2 : (0 : Int) ≤ (kk : Int) := by omega
              have i3 : (kk : Int) < (L.length : Int) := by omega
              have i4 : (y : Int) < (zs.length : Int) := by omega
              obtain ⟨fa, hfa⟩ : ∃ fa, fa = (L.take kk).foldl (fun a y => maxI a (zs.getD y.toNat 0)) (0 : Int) := ⟨_, rfl⟩
              rw [← hfa] at FT ⊢
              obtain ⟨zy, hzz⟩ : ∃ zy, zy = zs.getD y 0 := ⟨_, rfl⟩
              rw [← hzz] at hzy FT
              have M := Lib.hid (fun w => mostI fa zy w)
              clear hy hfa hzz
              go_wp2_with fail
              refine (M.out _).mono ?_
              rintro e w9 ⟨rfl, rfl⟩
              go_wp2_with fail
              go_roundg (L.length - (kk + 1))
              case rel => exact ⟨kk + 1, by omega, by omega, by go_num, by rw [FT.out], by first | trivial | rfl⟩
              case measure => omega
            · have R : Hid ((L.take kk).foldl (fun a y => maxI a (zs.getD y.toNat 0)) (0 : Int) = (highT ps zs).getD x 0) := Lib.hid (by rw [List.take_of_length_le (by omega)]; exact FX.out)
              rw [R.out]
              obtain ⟨hv, hhv⟩ : ∃ hv, hv = (highT ps zs).getD x 0 := ⟨_, rfl⟩
              rw [← hhv] at NX HX ⊢
              have HI := Lib.hid (show InI64 hv by have := HX.out; unfold InI64; omega)
              have hown := HO3.out.row
              have hsz : w.heap.size + 1 ≤ wr.heap.size := by have := HT3.out.lt; omega
              clear hhv
              go_wp2_with (at_builtin; refine wpList_append_own_at _ rfl _ _ 22 rfl (w.heap.size + 1) 3 i0 (.int .i64 0) 1 8 Try.underlying22 hi hz0 hz1 hz2 rfl (by decide) _ HK.length (HK.map (.int .i64)) rfl (hown.alloc _) ⟨wr.heap.size, 0, none⟩ 1 1 [.int .i64 hv] rfl rfl (cell_one_new _ _ _) (fun x hx => by simp at hx; subst hx; rfl) (by unfold maxLen; omega) (by omega) (by simp; omega) ?_; intro v' w4 hown3 hgrow3 hnil3 hloc3)
              have bel3 := Lib.hid ((HB3.out.alloc HB3.out.size _).grown hgrow3 (by simp; omega) (fun q hq => by have := (hown.lt q hq).1; omega))
              have own3 := Lib.hid (HO3.out.app HI.out hown3)
              have box3 := Lib.hid ((HT3.out.alloc _).grown hgrow3 (fun q hq => (hown.lt q hq).1) (by omega))
              have q3 : Hid (∀ q, v'.ownBlock = some q → q ≠ g) := Lib.hid (fun q hq => by
                rcases hloc3 with h | h
                · exact HQ.out q (h.symm.trans hq)
                · rw [h] at hq; simp at hq; have := HG3.out; omega)
              have d3 : Hid (∀ j, j < E.length → w4.cell? ⟨g, j, none⟩ = some (.int .i64 (E.getD j 0))) := Lib.hid (fun j hj => by
                rw [ne_grown2 hgrow3 (by simp; have := HG3.out; omega) HQ.out, World.cell?_alloc_lt _ _ _ (by exact HG3.out)]; exact HDC3.out j hj)
              have g3 : Hid (g < w4.heap.size) := Lib.hid (by have := hgrow3.size; simp at this; have := HG3.out; omega)
              clear hown hown3 hgrow3 hnil3 hloc3
              go_roundg (E.length - (k + 1))
              case rel => exact ⟨k + 1, by omega, by omega, by go_num, Lib.hid (by rw [NX.out]; exact own3.out), q3, d3, g3, box3, bel3⟩
              case measure => omega
      · rw [ALL.out k (by omega)] at HO
        have FIN : Hid (∀ o, OwnV wr (w.heap.size + 1) wr.heap.size o HE → NewInts HE w (.returned o) wr) := Lib.hid (fun o ho => ⟨_, rfl, ho.low (by omega), HB.out⟩)
        go_wp2
        go_ret
        exact FIN.out _ HO.out
end Go.Proofs.Ytligidmkhbcpmac
namespace Go.Proofs.Ytligidmkhbcpmac
open Go.RowKit
set_option linter.unusedVariables false
set_option maxRecDepth 100000 in
set_option maxHeartbeats 8000000 in
theorem fairS10 (ps ws zs : List Int) (v u : Value) (w : World) (hn : zs.length ≤ 1048576) (h : TreeV w w.heap.size v ps ws) (hu : IntsV w w.heap.size u zs) :
    Calls Try.prog 84 #[v, u] w (Gives (.bool (lgB ps ws zs)) w) := by
  have P1 := Lib.hid (fun w' (hb : Below w.heap.size w w') => pays4 ps ws zs v u w' hn (h.boxed hb) ((hu.below hb).more hb.size))
  have P2 := Lib.hid (fun (pr : Proc ps ws zs) w' (hb : Below w.heap.size w w') => bal4S ps ws zs v u w' pr (h.boxed hb) ((hu.below hb).more hb.size))
  have LB := Lib.hid (show lgB ps ws zs = ((procB ps ws zs && steB ps ws zs true) && fromB 0 999 zs) from rfl)
  have PZ := Lib.hid (fun (h : procB ps ws zs = true) => procB_iff.1 h)
  obtain ⟨p1, c1, p2, c2, rfl⟩ := h.shape
  obtain ⟨q, d, rfl, _, _, _, iz⟩ := hu
  have EZ := Lib.hid iz
  clear h iz
  generalize lgB ps ws zs = G at *
  obtain ⟨wa, hwa⟩ : ∃ wa, wa = w.alloc (.cells #[.slice p1 ps.length c1, .slice p2 ws.length c2] 29) := ⟨_, rfl⟩
  have B1 : Below w.heap.size w wa := by rw [hwa]; exact (Below.refl w.heap.size w).alloc (Nat.le_refl _) _
  have T1 := Lib.hid (show TBox wa w.heap.size (.slice p1 ps.length c1) (.slice p2 ws.length c2) from by rw [hwa]; exact alloc_heap w _)
  have HBA := Lib.hid B1
  clear B1
  obtain ⟨x0, x1⟩ := T1.out.cells
  cases hz : procB ps ws zs
  · have RV := Lib.hid (show G = false by rw [LB.out, hz]; rfl)
    rw [hz] at P1
    clear hz PZ LB P2
    go_enter Try.func84, Try.ntmps84
    go_wp2_with fail
    rw [← hwa]
    clear hwa
    refine (P1.out _ HBA.out).mono ?_
    rintro e w1 ⟨rfl, b1⟩
    have HB1 := Lib.hid (HBA.out.trans (b1.mono HBA.out.size))
    have T2 := Lib.hid (T1.out.below b1 T1.out.lt)
    clear b1 x0 x1
    go_wp2_with fail
    go_ret
    exact ⟨by rw [RV.out]; rfl, HB1.out⟩
  have P2' := Lib.hid (P2.out (PZ.out hz))
  have pr := PZ.out hz
  rw [hz] at P1
  clear P2
  cases hs : steB ps ws zs true
  · have RV := Lib.hid (show G = false by rw [LB.out, hz, hs]; rfl)
    rw [hs] at P2'
    clear hz hs PZ LB pr
    go_enter Try.func84, Try.ntmps84
    go_wp2_with fail
    rw [← hwa]
    clear hwa
    refine (P1.out _ HBA.out).mono ?_
    rintro e w1 ⟨rfl, b1⟩
    have HB1 := Lib.hid (HBA.out.trans (b1.mono HBA.out.size))
    have T2 := Lib.hid (T1.out.below b1 T1.out.lt)
    clear b1 x0 x1
    obtain ⟨x0, x1⟩ := T2.out.cells
    go_wp2_with fail
    refine (P2'.out _ HB1.out).mono ?_
    rintro e w2 ⟨rfl, b2⟩
    have HB2 := Lib.hid (HB1.out.trans (b2.mono HB1.out.size))
    clear b2
    go_wp2_with fail
    go_ret
    exact ⟨by rw [RV.out]; rfl, HB2.out⟩
  have RV := Lib.hid (show G = fromB 0 999 zs by rw [LB.out, hz, hs]; rfl)
  have BD := Lib.hid pr.bd
  have ZN := Lib.hid (show zs.length ≤ 24 by rw [pr.len]; exact pr.good.n24)
  have NO := Lib.hid (fun k (hk : k < zs.length) (h : zs.getD k 0 < 0) => show G = false by rw [RV.out, from_no hk (by omega)])
  have YES := Lib.hid (fun (h : ∀ k, k < zs.length → 0 ≤ zs.getD k 0) => show G = true by rw [RV.out]; exact from_yes (fun k hk => by have := h k hk; have := BD.out k hk; omega))
  rw [hs] at P2'
  clear hz hs PZ LB pr RV
  go_enter Try.func84, Try.ntmps84
  go_wp2_with fail
  rw [← hwa]
  clear hwa
  refine (P1.out _ HBA.out).mono ?_
  rintro e w1 ⟨rfl, b1⟩
  have HB1 := Lib.hid (HBA.out.trans (b1.mono HBA.out.size))
  have T2 := Lib.hid (T1.out.below b1 T1.out.lt)
  clear b1 x0 x1
  obtain ⟨x0, x1⟩ := T2.out.cells
  go_wp2_with fail
  refine (P2'.out _ HB1.out).mono ?_
  rintro e w2 ⟨rfl, b2⟩
  have HB2 := Lib.hid (HB1.out.trans (b2.mono HB1.out.size))
  clear b2 x0 x1
  have zn := ZN.out
  go_wp2_with fail
  go_loopg [5] zs.length (fun gg i wr => ∃ k : Nat, k ≤ zs.length ∧ zs.length - k ≤ gg ∧ i = .int .i64 k ∧ Hid (∀ j, j < k → 0 ≤ zs.getD j 0) ∧ Hid (Below w.heap.size w wr))
  case atStart => exact ⟨0, Nat.zero_le _, by omega, rfl, Lib.hid (fun j hj => by omega), HB2⟩
  case round =>
    clear HB2 HB1 T2
    obtain ⟨k, hk, hgg, rfl, HL, HB⟩ := hrel
    by_cases hlt : k < zs.length
    · obtain ⟨b, off, rfl, hb, hc⟩ := EZ.out.get hlt
      have hcw : wr.cell? ⟨b, off + k, none⟩ = some (.int .i64 (zs.getD k 0)) := by rw [HB.out.cell (p := ⟨b, off + k, none⟩) hb]; exact hc
      have i0 : (0 : Int) ≤ (k : Int) := by omega
      have i1 : (k : Int) < (zs.length : Int) := by omega
      have NX : Hid (0 ≤ zs.getD k 0 → ∀ j, j < k + 1 → 0 ≤ zs.getD j 0) := Lib.hid (fun h j hj => by
        rcases Nat.lt_or_ge j k with c | c
        · exact HL.out j c
        · obtain rfl : j = k := by omega
          exact h)
      have N2 := Lib.hid (NO.out k hlt)
      obtain ⟨z, hz⟩ : ∃ z, z = zs.getD k 0 := ⟨_, rfl⟩
      rw [← hz] at hcw NX N2
      clear hc hz hb HL
      by_cases hneg : z < 0
      · have N3 := Lib.hid (N2.out hneg)
        clear NX N2
        go_wp2_with fail
        go_ret
        exact ⟨by rw [N3.out]; rfl, HB.out⟩
      · have N3 := Lib.hid (NX.out (by omega))
        clear NX N2
        go_wp2_with fail
        go_roundg (zs.length - (k + 1))
        case rel => exact ⟨k + 1, by omega, by omega, by go_num, N3, HB⟩
        case measure => omega
    · have FIN := Lib.hid (YES.out (fun j hj => HL.out j (by omega)))
      clear HL
      go_wp2_with fail
      go_ret
      exact ⟨by rw [FIN.out]; rfl, HB.out⟩
set_option maxRecDepth 100000 in
set_option maxHeartbeats 8000000 in
theorem lmS (ps ws zs : List Int) (v u : Value) (w : World) (hn : zs.length ≤ 1048576) (h : TreeV w w.heap.size v ps ws) (hu : IntsV w w.heap.size u zs) :
    Calls Try.prog 13 #[v, u] w (Gives (lmV ps ws zs) w) := by
  have FZ := Lib.hid (fun w' (hb : Below w.heap.size w w') => fairS10 ps ws zs v u w' hn (h.boxed hb) ((hu.below hb).more hb.size))
  have LV := Lib.hid (show lmV ps ws zs = if lgB ps ws zs = true then seerV ps ws zs else zeroP from rfl)
  have PE := Lib.hid (fun (hg : lgB ps ws zs = true) w' (hb : Below w.heap.size w w') => peaksS ps ws zs v u w' (lgB_proc hg) (lgB_nn hg) (h.boxed hb) ((hu.below hb).more hb.size))
  have LM := Lib.hid (fun (hg : lgB ps ws zs = true) w' g (hb : Below w.heap.size w w') (hx : IntsV w' w'.heap.size g (highE ps zs)) => l2MeansB ps ws (highE ps zs) v g w' ⟨(lgB_proc hg).good, by rw [← bnd_high (lgB_proc hg)]; exact bndE_len _ _ _, fun i => by rw [← bnd_high (lgB_proc hg)]; exact bndE_bd (lgB_proc hg) (by rw [(lgB_proc hg).len]; exact proc_zeros (lgB_proc hg).good) i⟩ (h.boxed hb) hx)
  have SV := Lib.hid (fun (hg : lgB ps ws zs = true) => show seerV ps ws zs = .tuple #[.agg #[.int .i64 (meanN ps ws (highE ps zs) 0), .int .i64 (meanD ps ws (highE ps zs) 0)], .bool true] from by
    rw [← bnd_high (lgB_proc hg)]
    have so := seer_ok ps ws zs
    rw [procB_iff.2 (lgB_proc hg)] at so
    exact if_pos so)
  have GD := Lib.hid (fun (hg : lgB ps ws zs = true) => (lgB_proc hg).good.n1)
  obtain ⟨p1, c1, p2, c2, rfl⟩ := h.shape
  obtain ⟨q, d, rfl, _⟩ := hu
  clear h
  rw [LV.out]
  clear LV
  obtain ⟨wa, hwa⟩ : ∃ wa, wa = (w.alloc (.cells #[.slice p1 ps.length c1, .slice p2 ws.length c2] 29)).alloc (.cells #[.int .i64 0, .int .i64 0] 26) := ⟨_, rfl⟩
  have B1 : Below w.heap.size w wa := by rw [hwa]; exact ((Below.refl w.heap.size w).alloc (Nat.le_refl _) _).alloc (by simp) _
  obtain ⟨k0, k1⟩ := alloc_two w (.cells #[.slice p1 ps.length c1, .slice p2 ws.length c2] 29) (.cells #[.int .i64 0, .int .i64 0] 26)
  rw [← hwa] at k0 k1
  have T1 := Lib.hid (show TBox wa w.heap.size (.slice p1 ps.length c1) (.slice p2 ws.length c2) from k0)
  have R1 := Lib.hid (show QBox wa (w.heap.size + 1) 0 0 from k1)
  have HBA := Lib.hid B1
  clear B1 k0 k1
  obtain ⟨x0, x1⟩ := T1.out.cells
  cases hg : lgB ps ws zs
  · rw [if_neg (by decide)]
    rw [hg] at FZ
    unfold zeroP
    clear hg
    go_enter Try.func13, Try.ntmps13
    go_wp2_with fail
    rw [← hwa]
    clear hwa
    refine (FZ.out _ HBA.out).mono ?_
    rintro e w1 ⟨rfl, b1⟩
    have HB1 := Lib.hid (HBA.out.trans (b1.mono HBA.out.size))
    have R2 := Lib.hid (R1.out.below b1 R1.out.lt)
    have T2 := Lib.hid (T1.out.below b1 T1.out.lt)
    clear b1 x0 x1
    obtain ⟨⟨r0, r1⟩, f0, f1⟩ := R2.out.cells
    go_wp2_with fail
    refine bodyPost_ret (v := .tuple #[.agg #[.int .i64 0, .int .i64 0], .bool false]) (by simp [results, Try.results13, go_sem, r0, r1]) rfl ⟨rfl, ?_⟩
    exact (HB1.out.setCell (p := ⟨w.heap.size + 1, 0, none⟩) (by simp) _).setCell (p := ⟨w.heap.size + 1, 1, none⟩) (by simp) _
  · rw [if_pos rfl, SV.out hg]
    rw [hg] at FZ
    have PE2 := Lib.hid (PE.out hg)
    have LM2 := Lib.hid (LM.out hg)
    have n1 := GD.out hg
    clear hg PE LM SV GD
    obtain ⟨MA, hMA⟩ : ∃ M, M = meanN ps ws (highE ps zs) := ⟨_, rfl⟩
    obtain ⟨MD, hMD⟩ : ∃ M, M = meanD ps ws (highE ps zs) := ⟨_, rfl⟩
    rw [← hMA, ← hMD] at LM2 ⊢
    clear hMA hMD
    go_enter Try.func13, Try.ntmps13
    go_wp2_with fail
    rw [← hwa]
    clear hwa
    refine (FZ.out _ HBA.out).mono ?_
    rintro e w1 ⟨rfl, b1⟩
    have HB1 := Lib.hid (HBA.out.trans (b1.mono HBA.out.size))
    have R2 := Lib.hid (R1.out.below b1 R1.out.lt)
    have T2 := Lib.hid (T1.out.below b1 T1.out.lt)
    clear b1 x0 x1
    have HD : Hid (Below w1.heap.size w1 w1.drew) := Lib.hid (below_drew (Below.refl _ _))
    have KC : Hid (∀ w', Hid (Below w1.heap.size w1 w') → w'.cell? ⟨w.heap.size, 0, none⟩ = some (.slice p1 ps.length c1) ∧ w'.cell? ⟨w.heap.size, 1, none⟩ = some (.slice p2 ws.length c2)) := Lib.hid (fun w' hb => (T2.out.below hb.out T2.out.lt).cells)
    have KR : Hid (∀ w', Hid (Below w1.heap.size w1 w') → _) := Lib.hid (fun w' hb => (R2.out.below hb.out R2.out.lt).cells)
    have CP : Hid (∀ w', Hid (Below w1.heap.size w1 w') → Calls Try.prog 86 _ w' _) := Lib.hid (fun w' hb => PE2.out w' (HB1.out.trans (hb.out.mono HB1.out.size)))
    have CM : Hid (∀ w' g, Hid (Below w1.heap.size w1 w') → IntsV w' w'.heap.size g (highE ps zs) → Calls Try.prog 85 #[_, g] w' _) := Lib.hid (fun w' g hb hx => LM2.out w' g (HB1.out.trans (hb.out.mono HB1.out.size)) hx)
    obtain ⟨x0, x1⟩ := T2.out.cells
    have n0 : (0 : Int) < (ps.length : Int) := by omega
    go_upto_region 3 with fail
    go_region_with (first
      | (go_at_call 86; (with_reducible refine (CP.out _ HD).mono ?_); rintro e w7 ⟨u7, rfl, o7, b7⟩; (have HB7 := hb_next (wa := w1) HD b7); (obtain ⟨z0, z1⟩ := KC.out w7 HB7); (have O7 := Lib.hid o7.intsV); (obtain ⟨pq7, cq7, rfl, _⟩ := o7.intsV); clear b7 o7)
      | (go_at_call 85; (with_reducible refine (CM.out _ _ HB7 O7.out).mono ?_); rintro e w8 ⟨u8, rfl, o8, b8⟩; (have HB8 := hb_next (wa := w1) HB7 b8); (obtain ⟨⟨r0, r1⟩, f0, f1⟩ := KR.out w8 HB8); (obtain ⟨k0, k1⟩ := KC.out w8 HB8); (obtain ⟨pq, cq, rfl, hPQ⟩ := o8.opened); (obtain ⟨g6, rfl, _, hg6, a0⟩ := hPQ 0 (by omega)); (obtain ⟨g6', e6, _, _, a1⟩ := hPQ 1 (by omega)); (obtain rfl : g6 = g6' := by injection e6 with h; injection h); (have P0 := prL_at MA MD (k := ps.length) (j := 0) (by omega)); (rw [show 0 * 2 = 0 from rfl, show 0 * 2 + 1 = 1 from rfl] at P0); (rw [P0.1] at a0); (rw [P0.2] at a1); clear o8 b8 hPQ e6 P0))
    all_goals
      have HB9 := Lib.hid (HB1.out.trans (HB8.out.mono HB1.out.size))
      go_wp2_with fail
      refine bodyPost_ret (v := .tuple #[.agg #[.int .i64 (MA 0), .int .i64 (MD 0)], .bool true]) (by simp [results, Try.results13, go_sem, r0, r1]) rfl ⟨rfl, ?_⟩
      exact (HB9.out.setCell (p := ⟨w.heap.size + 1, 0, none⟩) (by simp) _).setCell (p := ⟨w.heap.size + 1, 1, none⟩) (by simp) _
end Go.Proofs.Ytligidmkhbcpmac
namespace Go.Proofs.Ytligidmkhbcpmac
open Go.RowKit
set_option linter.unusedVariables false
theorem mkL_all {zs : List Int} {lv : Int} (l1 : 1 ≤ lv) (y : Nat) : (mkL zs lv).getD y 0 = ndL lv (zs.getD y 0) := by
  by_cases h : y < zs.length
  · exact mkL_at h
  · rw [List.getD_eq_getElem?_getD, List.getElem?_eq_none (by rw [mkL_len]; omega), List.getD_eq_getElem?_getD, List.getElem?_eq_none (by omega)]
    show (0 : Int) = ndL lv 0
    unfold ndL
    rw [if_neg (by omega)]
theorem nd_fold {zs : List Int} {lv : Int} (l1 : 1 ≤ lv) (W : List Int) : ∀ a : Int, W.foldl (fun a y => maxI a ((mkL zs lv).getD y.toNat 0)) (ndL lv a) = ndL lv (W.foldl (fun a y => maxI a (zs.getD y.toNat 0)) a) := by
  induction W with
  | nil => intro a; rfl
  | cons b R ih => intro a; rw [List.foldl_cons, List.foldl_cons, mkL_all l1, ← ndL_max, ih]
/-- The greatest mark tells whether the greatest number reaches the level. -/
theorem high_mk {ps ws zs : List Int} {lv : Int} (p : Proc ps ws zs) (l1 : 1 ≤ lv) : highE ps (mkL zs lv) = mkL (highE ps zs) lv := by
  unfold highE
  show _ = List.map (ndL lv) _
  rw [List.map_map]
  refine List.map_congr_left (fun e he => ?_)
  have hx : ∃ x : Nat, e = (x : Int) ∧ x < ps.length := by
    obtain ⟨i, hi, e1⟩ := List.getElem_of_mem he
    obtain ⟨x, h1, h2, _⟩ := ends_in hi
    refine ⟨x, ?_, h2⟩
    rw [List.getD_eq_getElem?_getD, List.getElem?_eq_getElem hi] at h1
    rw [← e1]; exact h1.symm
  obtain ⟨x, rfl, hx⟩ := hx
  show _ = ndL lv ((highT ps zs).getD (x : Int).toNat 0)
  rw [Int.toNat_natCast]
  rw [← high_fold p hx, ← high_fold (mkL_proc p lv) hx, mkL_all l1]
  exact nd_fold l1 _ _
theorem setAltM (w : World) (g k : Nat) (x : Value) (q : Nat) (h : q ≠ g) : (w.setCell ⟨g, k, none⟩ x).heap[q]? = w.heap[q]? := Below.heap_setCell w ⟨g, k, none⟩ x q h
/-- The marks, as far as they are set. -/
def pmL (H : List Int) (lv : Int) (k : Nat) : List Int := (mkL H lv).take k ++ H.drop k
theorem pm_zero (H : List Int) (lv : Int) : pmL H lv 0 = H := by simp [pmL]
theorem pm_all (H : List Int) (lv : Int) : pmL H lv H.length = mkL H lv := by
  unfold pmL
  rw [List.drop_length, List.append_nil]
  exact List.take_of_length_le (by rw [mkL_len]; omega)
theorem pm_len (H : List Int) (lv : Int) (k : Nat) : (pmL H lv k).length = H.length := by
  unfold pmL
  rw [List.length_append, List.length_take, List.length_drop, mkL_len]; omega
theorem pm_at {H : List Int} {lv : Int} {k : Nat} (hk : k < H.length) : (pmL H lv k).getD k 0 = H.getD k 0 := by
  unfold pmL
  rw [List.getD_eq_getElem?_getD, List.getElem?_append_right (by rw [List.length_take]; omega), List.length_take, mkL_len, Nat.min_eq_left (by omega), Nat.sub_self, List.getElem?_drop, Nat.add_zero, ← List.getD_eq_getElem?_getD]
theorem pm_set {H : List Int} {lv : Int} {k : Nat} (hk : k < H.length) : (pmL H lv k).set k (ndL lv (H.getD k 0)) = pmL H lv (k + 1) := by
  have hm : k < (mkL H lv).length := by rw [mkL_len]; exact hk
  have e : (mkL H lv)[k]'hm = ndL lv (H.getD k 0) := by
    rw [← mkL_at hk, List.getD_eq_getElem?_getD, List.getElem?_eq_getElem hm]; rfl
  unfold pmL
  rw [List.set_append_right _ _ (by rw [List.length_take]; omega), List.length_take, mkL_len, Nat.min_eq_left (by omega), Nat.sub_self, List.take_succ_eq_append_getElem hm, e, List.append_assoc, List.drop_eq_getElem_cons hk]
  rfl
set_option maxRecDepth 100000 in
set_option maxHeartbeats 8000000 in
theorem lcS (ps ws zs : List Int) (lv : Int) (v u : Value) (w : World) (hn : zs.length ≤ 1048576) (h : TreeV w w.heap.size v ps ws) (hu : IntsV w w.heap.size u zs) :
    Calls Try.prog 20 #[v, u, .int .i64 lv] w (Gives (lcV ps ws zs lv) w) := by
  have FZ := Lib.hid (fun w' (hb : Below w.heap.size w w') => fairS10 ps ws zs v u w' hn (h.boxed hb) ((hu.below hb).more hb.size))
  have FI := Lib.hid (fun w => inS lv 1 999 w)
  have LV := Lib.hid (show lcV ps ws zs lv = if lcB ps ws zs lv = true then seerV ps ws (mkL zs lv) else zeroP from rfl)
  have PE := Lib.hid (fun (hg : lgB ps ws zs = true) w' (hb : Below w.heap.size w w') => peaksS ps ws zs v u w' (lgB_proc hg) (lgB_nn hg) (h.boxed hb) ((hu.below hb).more hb.size))
  have HH := Lib.hid (fun (hg : lgB ps ws zs = true) (l1 : 1 ≤ lv) => show mkL (highE ps zs) lv = bndE ps (mkL zs lv) (List.replicate (mkL zs lv).length 0) by rw [bnd_high (mkL_proc (lgB_proc hg) lv), high_mk (lgB_proc hg) l1])
  have LM := Lib.hid (fun (hg : lgB ps ws zs = true) (l1 : 1 ≤ lv) w' g (hb : Below w.heap.size w w') (hx : IntsV w' w'.heap.size g (mkL (highE ps zs) lv)) => l2MeansB ps ws (mkL (highE ps zs) lv) v g w' ⟨(lgB_proc hg).good, by rw [HH.out hg l1]; exact bndE_len _ _ _, fun i => by rw [HH.out hg l1]; exact bndE_bd (mkL_proc (lgB_proc hg) lv) (by rw [mkL_len, (lgB_proc hg).len]; exact proc_zeros (lgB_proc hg).good) i⟩ (h.boxed hb) hx)
  have SV := Lib.hid (fun (hg : lgB ps ws zs = true) (l1 : 1 ≤ lv) => show seerV ps ws (mkL zs lv) = .tuple #[.agg #[.int .i64 (meanN ps ws (mkL (highE ps zs) lv) 0), .int .i64 (meanD ps ws (mkL (highE ps zs) lv) 0)], .bool true] from by
    rw [HH.out hg l1]
    have so := seer_ok ps ws (mkL zs lv)
    rw [procB_iff.2 (mkL_proc (lgB_proc hg) lv)] at so
    exact if_pos so)
  have GD := Lib.hid (fun (hg : lgB ps ws zs = true) => (lgB_proc hg).good.n1)
  have EL := Lib.hid (fun (hg : lgB ps ws zs = true) => show 0 < (highE ps zs).length ∧ (highE ps zs).length ≤ 24 from by
    rw [← bnd_high (lgB_proc hg), bndE_len]
    exact ⟨ends_pos (lgB_proc hg).good, Nat.le_trans (ends_le ps) (lgB_proc hg).good.n24⟩)
  obtain ⟨p1, c1, p2, c2, rfl⟩ := h.shape
  obtain ⟨q, d, rfl, _⟩ := hu
  clear h
  rw [LV.out]
  clear LV
  obtain ⟨wa, hwa⟩ : ∃ wa, wa = (w.alloc (.cells #[.slice p1 ps.length c1, .slice p2 ws.length c2] 29)).alloc (.cells #[.int .i64 0, .int .i64 0] 26) := ⟨_, rfl⟩
  have B1 : Below w.heap.size w wa := by rw [hwa]; exact ((Below.refl w.heap.size w).alloc (Nat.le_refl _) _).alloc (by simp) _
  obtain ⟨k0, k1⟩ := alloc_two w (.cells #[.slice p1 ps.length c1, .slice p2 ws.length c2] 29) (.cells #[.int .i64 0, .int .i64 0] 26)
  rw [← hwa] at k0 k1
  have T1 := Lib.hid (show TBox wa w.heap.size (.slice p1 ps.length c1) (.slice p2 ws.length c2) from k0)
  have R1 := Lib.hid (show QBox wa (w.heap.size + 1) 0 0 from k1)
  have HBA := Lib.hid B1
  clear B1 k0 k1
  obtain ⟨x0, x1⟩ := T1.out.cells
  cases hg : lgB ps ws zs
  · have EB : lcB ps ws zs lv = false := by unfold lcB; rw [hg]; rfl
    rw [EB, if_neg (by decide)]
    clear EB
    rw [hg] at FZ
    unfold zeroP
    clear hg
    go_enter Try.func20, Try.ntmps20
    go_wp2_with fail
    rw [← hwa]
    clear hwa
    refine (FZ.out _ HBA.out).mono ?_
    rintro e w1 ⟨rfl, b1⟩
    have HB1 := Lib.hid (HBA.out.trans (b1.mono HBA.out.size))
    have R2 := Lib.hid (R1.out.below b1 R1.out.lt)
    have T2 := Lib.hid (T1.out.below b1 T1.out.lt)
    clear b1 x0 x1
    obtain ⟨⟨r0, r1⟩, f0, f1⟩ := R2.out.cells
    go_wp2_with fail
    refine bodyPost_ret (v := .tuple #[.agg #[.int .i64 0, .int .i64 0], .bool false]) (by simp [results, Try.results20, go_sem, r0, r1]) rfl ⟨rfl, ?_⟩
    exact (HB1.out.setCell (p := ⟨w.heap.size + 1, 0, none⟩) (by simp) _).setCell (p := ⟨w.heap.size + 1, 1, none⟩) (by simp) _
  by_cases hl : 1 ≤ lv ∧ lv ≤ 999
  · have EB : lcB ps ws zs lv = true := by unfold lcB; rw [hg, decide_eq_true hl]; rfl
    rw [EB, if_pos rfl, SV.out hg hl.1]
    clear EB
    rw [hg] at FZ
    rw [decide_eq_true hl] at FI
    have PE2 := Lib.hid (PE.out hg)
    have LM2 := Lib.hid (LM.out hg hl.1)
    have n1 := GD.out hg
    obtain ⟨e0, e24⟩ := EL.out hg
    clear hg PE LM SV GD HH EL hl
    obtain ⟨H, hH⟩ : ∃ H, H = highE ps zs := ⟨_, rfl⟩
    rw [← hH] at PE2 LM2 e0 e24 ⊢
    clear hH
    obtain ⟨MA, hMA⟩ : ∃ M, M = meanN ps ws (mkL H lv) := ⟨_, rfl⟩
    obtain ⟨MD, hMD⟩ : ∃ M, M = meanD ps ws (mkL H lv) := ⟨_, rfl⟩
    rw [← hMA, ← hMD] at LM2 ⊢
    clear hMA hMD
    have PS := Lib.hid (fun k hk => pm_set (H := H) (lv := lv) (k := k) hk)
    have PT := Lib.hid (fun k hk => pm_at (H := H) (lv := lv) (k := k) hk)
    have PL := Lib.hid (fun k => pm_len H lv k)
    have PA := Lib.hid (pm_all H lv)
    have P0 := Lib.hid (pm_zero H lv)
    have n0 : (0 : Int) < (ps.length : Int) := by omega
    go_enter Try.func20, Try.ntmps20
    go_wp2_with fail
    rw [← hwa]
    clear hwa
    refine (FZ.out _ HBA.out).mono ?_
    rintro e w1 ⟨rfl, b1⟩
    have HB1 := Lib.hid (HBA.out.trans (b1.mono HBA.out.size))
    have R2 := Lib.hid (R1.out.below b1 R1.out.lt)
    have T2 := Lib.hid (T1.out.below b1 T1.out.lt)
    clear b1 x0 x1
    obtain ⟨x0, x1⟩ := T2.out.cells
    go_wp2_with fail
    refine (FI.out _).mono ?_
    rintro e w2 ⟨rfl, rfl⟩
    go_wp2_with fail
    refine (PE2.out _ HB1.out).mono ?_
    rintro e w3 ⟨u3, rfl, o3, b3⟩
    have HB3 := Lib.hid (HB1.out.trans (b3.mono HB1.out.size))
    have R3 := Lib.hid (R2.out.below b3 R2.out.lt)
    have T3 := Lib.hid (T2.out.below b3 T2.out.lt)
    obtain ⟨g, cap, rfl, hlo, _⟩ := o3.shape e0
    have RL := Lib.hid (show w.heap.size + 1 < g from Nat.lt_of_lt_of_le R2.out.lt hlo)
    have O3 := Lib.hid o3.tight
    rw [← P0.out] at O3
    clear o3 b3 R2 T2 hlo x0 x1 P0
    go_wp2_with fail
    go_loopg [9] H.length (fun gg i wr => ∃ k : Nat, k ≤ H.length ∧ H.length - k ≤ gg ∧ i = .int .i64 k ∧ Hid (OwnV wr g (g + 1) (.slice (some ⟨g, 0, none⟩) H.length cap) (pmL H lv k)) ∧ Hid (Below w.heap.size w wr) ∧ Hid (QBox wr (w.heap.size + 1) 0 0) ∧ Hid (TBox wr w.heap.size (.slice p1 ps.length c1) (.slice p2 ws.length c2)))
    case atStart => exact ⟨0, Nat.zero_le _, by omega, rfl, O3, HB3, R3, T3⟩
    case round =>
      clear O3 HB3 R3 T3 HB1
      obtain ⟨k, hk, hgg, rfl, HO, HB, HR, HT⟩ := hrel
      by_cases hlt : k < H.length
      · have i0 : (0 : Int) ≤ (k : Int) := by omega
        have i1 : (k : Int) < (H.length : Int) := by omega
        have fs := PS.out k hlt
        have old := HO.out.cellGet (j := k) (by rw [PL.out]; exact hlt)
        rw [PT.out k hlt] at old
        have f1 := HO.out.frozenGet k
        obtain ⟨z, hz⟩ : ∃ z, z = H.getD k 0 := ⟨_, rfl⟩
        rw [← hz] at old fs
        clear hz
        by_cases hlv : lv ≤ z
        · rw [show ndL lv z = 1 from if_pos hlv] at fs
          have HO2 := Lib.hid (HO.out.setAt k (x := 1) (by unfold InI64; omega))
          rw [fs] at HO2
          have HB2 := Lib.hid (HB.out.setCell (p := ⟨g, k, none⟩) (by have := RL.out; show w.heap.size ≤ g; omega) (.int .i64 1))
          have A2 := setAltM wr g k (.int .i64 1)
          have HR2 := Lib.hid (show QBox (wr.setCell ⟨g, k, none⟩ (.int .i64 1)) (w.heap.size + 1) 0 0 from (A2 _ (by have := RL.out; omega)).trans HR.out)
          have HT2 := Lib.hid (show TBox (wr.setCell ⟨g, k, none⟩ (.int .i64 1)) w.heap.size _ _ from (A2 _ (by have := RL.out; omega)).trans HT.out)
          clear fs A2 HO HB HR HT
          go_wp2_with fail
          go_roundg (H.length - (k + 1))
          case rel => exact ⟨k + 1, by omega, by omega, by go_num, HO2, HB2, HR2, HT2⟩
          case measure => omega
        · rw [show ndL lv z = 0 from if_neg hlv] at fs
          have hlv2 : z < lv := by omega
          have HO2 := Lib.hid (HO.out.setAt k (x := 0) (by unfold InI64; omega))
          rw [fs] at HO2
          have HB2 := Lib.hid (HB.out.setCell (p := ⟨g, k, none⟩) (by have := RL.out; show w.heap.size ≤ g; omega) (.int .i64 0))
          have A2 := setAltM wr g k (.int .i64 0)
          have HR2 := Lib.hid (show QBox (wr.setCell ⟨g, k, none⟩ (.int .i64 0)) (w.heap.size + 1) 0 0 from (A2 _ (by have := RL.out; omega)).trans HR.out)
          have HT2 := Lib.hid (show TBox (wr.setCell ⟨g, k, none⟩ (.int .i64 0)) w.heap.size _ _ from (A2 _ (by have := RL.out; omega)).trans HT.out)
          clear fs A2 HO HB HR HT
          go_wp2_with fail
          go_roundg (H.length - (k + 1))
          case rel => exact ⟨k + 1, by omega, by omega, by go_num, HO2, HB2, HR2, HT2⟩
          case measure => omega
      · have hkz : k = H.length := by omega
        have OM : OwnV wr g (g + 1) (.slice (some ⟨g, 0, none⟩) H.length cap) (mkL H lv) := by rw [← PA.out]; have h := HO.out; rw [hkz] at h; exact h
        have SC := Lib.hid (LM2.out wr _ HB.out (OM.intsV.more OM.room))
        obtain ⟨x0, x1⟩ := HT.out.cells
        clear hkz OM HO LM2 PS PT PL PA
        go_wp2_with fail
        refine SC.out.mono ?_
        rintro e w5 ⟨u8, rfl, o8, b5⟩
        have HB5 := Lib.hid (HB.out.trans (b5.mono HB.out.size))
        obtain ⟨⟨r0, r1⟩, f0, f1⟩ := (HR.out.below b5 HR.out.lt).cells
        obtain ⟨pq, cq, rfl, hPQ⟩ := o8.opened
        obtain ⟨g6, rfl, _, hg6, a0⟩ := hPQ 0 (by omega)
        obtain ⟨g6', e6, _, _, a1⟩ := hPQ 1 (by omega)
        obtain rfl : g6 = g6' := by injection e6 with h; injection h
        have P0 := prL_at MA MD (k := ps.length) (j := 0) (by omega)
        rw [show 0 * 2 = 0 from rfl, show 0 * 2 + 1 = 1 from rfl] at P0
        rw [P0.1] at a0
        rw [P0.2] at a1
        clear o8 b5 hPQ e6 P0
        go_wp2_with fail
        refine bodyPost_ret (v := .tuple #[.agg #[.int .i64 (MA 0), .int .i64 (MD 0)], .bool true]) (by simp [results, Try.results20, go_sem, r0, r1]) rfl ⟨rfl, ?_⟩
        exact (HB5.out.setCell (p := ⟨w.heap.size + 1, 0, none⟩) (by simp) _).setCell (p := ⟨w.heap.size + 1, 1, none⟩) (by simp) _
  · have EB : lcB ps ws zs lv = false := by unfold lcB; rw [decide_eq_false hl, Bool.and_false]
    rw [EB, if_neg (by decide)]
    clear EB
    rw [hg] at FZ
    rw [decide_eq_false hl] at FI
    unfold zeroP
    clear hg hl
    go_enter Try.func20, Try.ntmps20
    go_wp2_with fail
    rw [← hwa]
    clear hwa
    refine (FZ.out _ HBA.out).mono ?_
    rintro e w1 ⟨rfl, b1⟩
    have HB1 := Lib.hid (HBA.out.trans (b1.mono HBA.out.size))
    have R2 := Lib.hid (R1.out.below b1 R1.out.lt)
    have T2 := Lib.hid (T1.out.below b1 T1.out.lt)
    clear b1 x0 x1
    go_wp2_with fail
    refine (FI.out _).mono ?_
    rintro e w2 ⟨rfl, rfl⟩
    obtain ⟨⟨r0, r1⟩, f0, f1⟩ := R2.out.cells
    go_wp2_with fail
    refine bodyPost_ret (v := .tuple #[.agg #[.int .i64 0, .int .i64 0], .bool false]) (by simp [results, Try.results20, go_sem, r0, r1]) rfl ⟨rfl, ?_⟩
    exact (HB1.out.setCell (p := ⟨w.heap.size + 1, 0, none⟩) (by simp) _).setCell (p := ⟨w.heap.size + 1, 1, none⟩) (by simp) _
end Go.Proofs.Ytligidmkhbcpmac
