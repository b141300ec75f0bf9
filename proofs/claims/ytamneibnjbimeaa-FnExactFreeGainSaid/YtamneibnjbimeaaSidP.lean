/- The sides of nodes, told by numbers. No program is spoken of here. -/
import Derived.Test.YtamneibnjbimeaaMktP
namespace Go.Proofs.Ytamneibnjbimeaa
open Go.RowKit
set_option linter.unusedVariables false
/-- On which side of its parent's a price is. -/
def sgnC (a b : Int) : Nat := if a < b then 0 else if a = b then 1 else 2
theorem sgnC_lt (a b : Int) : sgnC a b < 3 := by unfold sgnC; split <;> (try split) <;> omega
/-- How many of the first k nodes are children of a node on a side of it. -/
def sdN (ps cs : List Int) (x f : Nat) : Nat → Nat
  | 0 => 0
  | k + 1 => sdN ps cs x f k + (if ps.getD k 0 = (x : Int) ∧ sgnC (cs.getD k 0) (cs.getD x 0) = f then 1 else 0)
theorem sdN_le (ps cs : List Int) (x f k : Nat) : sdN ps cs x f k ≤ k := by
  induction k with
  | zero => exact Nat.le_refl _
  | succ k ih => unfold sdN; split <;> omega
theorem sdN_one {ps : List Int} (cs : List Int) (x f : Nat) (h : ps.getD 0 0 = -1) : sdN ps cs x f 1 = 0 := by
  unfold sdN
  rw [if_neg (by rw [h]; omega)]; rfl
/-- The table of all sides behind k nodes. -/
def sdV (ps cs : List Int) (n k : Nat) : List Value := (List.range (n * 3)).map fun i => Value.int .i64 (sdN ps cs (i / 3) (i % 3) k : Nat)
theorem sdV_len (ps cs : List Int) (n k : Nat) : (sdV ps cs n k).length = n * 3 := by simp [sdV]
theorem sdV_at (ps cs : List Int) {n k x f : Nat} (hx : x < n) (hf : f < 3) : (sdV ps cs n k)[x * 3 + f]? = some (Value.int .i64 (sdN ps cs x f k : Nat)) := by
  unfold sdV
  rw [List.getElem?_map, List.getElem?_range (by omega)]
  have e1 : (x * 3 + f) / 3 = x := by omega
  have e2 : (x * 3 + f) % 3 = f := by omega
  simp only [Option.map_some, e1, e2]
theorem sdV_one {ps : List Int} (cs : List Int) (n : Nat) (h : ps.getD 0 0 = -1) : sdV ps cs n 1 = List.replicate (n * 3) (Value.int .i64 0) := by
  unfold sdV
  rw [List.eq_replicate_iff]
  refine ⟨by simp, fun v hv => ?_⟩
  obtain ⟨i, _, rfl⟩ := List.mem_map.1 hv
  rw [sdN_one cs _ _ h]; rfl
theorem sdV_set {ps : List Int} (cs : List Int) {n k p : Nat} (hp : ps.getD k 0 = (p : Int)) (hpn : p < n) :
    (sdV ps cs n k).set (p * 3 + sgnC (cs.getD k 0) (cs.getD p 0)) (Value.int .i64 ((sdN ps cs p (sgnC (cs.getD k 0) (cs.getD p 0)) k : Nat) + 1)) = sdV ps cs n (k + 1) := by
  have hs := sgnC_lt (cs.getD k 0) (cs.getD p 0)
  apply List.ext_getElem?
  intro i
  rw [List.getElem?_set]
  by_cases hi : i < n * 3
  · have e2 : (sdV ps cs n (k + 1))[i]? = some (Value.int .i64 (sdN ps cs (i / 3) (i % 3) (k + 1) : Nat)) := by
      unfold sdV; rw [List.getElem?_map, List.getElem?_range hi]; rfl
    have e1 : (sdV ps cs n k)[i]? = some (Value.int .i64 (sdN ps cs (i / 3) (i % 3) k : Nat)) := by
      unfold sdV; rw [List.getElem?_map, List.getElem?_range hi]; rfl
    rw [e2, e1]
    by_cases h : p * 3 + sgnC (cs.getD k 0) (cs.getD p 0) = i
    · rw [if_pos h, if_pos (by rw [sdV_len]; omega)]
      have d1 : i / 3 = p := by omega
      have d2 : i % 3 = sgnC (cs.getD k 0) (cs.getD p 0) := by omega
      rw [d1, d2, sdN, if_pos ⟨hp, rfl⟩]
      rfl
    · rw [if_neg h, sdN, if_neg (fun hh => h (by
        have h1 : ((i / 3 : Nat) : Int) = (p : Int) := by rw [← hh.1, hp]
        have h3 : i / 3 = p := by omega
        have h2 := hh.2
        rw [h3] at h2
        omega))]
      rfl
  · rw [if_neg (by omega), List.getElem?_eq_none (by rw [sdV_len]; omega), List.getElem?_eq_none (by rw [sdV_len]; omega)]
/-- How many of some children are on a side. -/
def cntK (cs : List Int) (x f : Nat) (L : List Int) : Nat := L.countP fun z => decide (sgnC (cs.getD z.toNat 0) (cs.getD x 0) = f)
theorem cntK_le (cs : List Int) (x f : Nat) (L : List Int) : cntK cs x f L ≤ L.length := List.countP_le_length
theorem cntK_kids (ps cs : List Int) (x f : Nat) : cntK cs x f (kidsT ps (x : Int)) = sdN ps cs x f ps.length := by
  rw [kidsT_eq]
  have key : ∀ n, cntK cs x f (nodesW (fun y => ps.getD y 0 == (x : Int)) n) = sdN ps cs x f n := by
    intro n
    induction n with
    | zero => rfl
    | succ n ih =>
      by_cases h : ps.getD n 0 = (x : Int)
      · rw [nodesW_yes (by simpa using h)]
        unfold cntK at ih ⊢
        rw [List.countP_append, ih, sdN]
        congr 1
        by_cases hs : sgnC (cs.getD n 0) (cs.getD x 0) = f
        · rw [if_pos ⟨h, hs⟩]; simp; exact hs
        · rw [if_neg (fun hh => hs hh.2)]; simp; exact hs
      · rw [nodesW_no (by simpa using h), ih, sdN, if_neg (fun hh => h hh.1)]; rfl
  exact key ps.length
theorem cntK_next (cs : List Int) (x f : Nat) {K : List Int} {i : Nat} (h : i < K.length) : cntK cs x f (K.take (i + 1)) = cntK cs x f (K.take i) + (if sgnC (cs.getD (K.getD i 0).toNat 0) (cs.getD x 0) = f then 1 else 0) := by
  unfold cntK
  have e : K.getD i 0 = K[i] := by rw [List.getD_eq_getElem?_getD, List.getElem?_eq_getElem h]; rfl
  rw [List.take_succ_eq_append_getElem h, List.countP_append, e]
  congr 1
  split <;> simp_all
/-- Whether a node is not even. -/
def unB (ps cs : List Int) (x : Nat) : Bool := (decide (0 < sdN ps cs x 0 ps.length)) != (decide (0 < sdN ps cs x 2 ps.length))
/-- The least number that a test takes, or -1. -/
def fstU (B : Nat → Bool) (n : Nat) : Int := match (List.range n).find? B with
  | some k => (k : Int)
  | none => -1
theorem fstU_hit {B : Nat → Bool} {n k : Nat} (hk : k < n) (h : B k = true) (hl : ∀ j, j < k → B j = false) : fstU B n = (k : Int) := by
  unfold fstU
  have : (List.range n).find? B = some k := by
    rw [List.find?_range_eq_some]
    exact ⟨h, by simpa using hk, fun j hj => by rw [hl j hj]; rfl⟩
  rw [this]
theorem fstU_miss {B : Nat → Bool} {n : Nat} (h : ∀ j, j < n → B j = false) : fstU B n = -1 := by
  unfold fstU
  have : (List.range n).find? B = none := by
    rw [List.find?_eq_none]
    intro j hj
    rw [h j (List.mem_range.1 hj)]; decide
  rw [this]
theorem fstU_cases (B : Nat → Bool) (n : Nat) : (fstU B n = -1 ∧ ∀ j, j < n → B j = false) ∨ (∃ k : Nat, k < n ∧ fstU B n = (k : Int) ∧ B k = true ∧ ∀ j, j < k → B j = false) := by
  unfold fstU
  cases h : (List.range n).find? B with
  | none =>
    left
    rw [List.find?_eq_none] at h
    refine ⟨rfl, fun j hj => ?_⟩
    have := h j (List.mem_range.2 hj)
    simpa using this
  | some k =>
    right
    rw [List.find?_range_eq_some] at h
    obtain ⟨h1, h2, h3⟩ := h
    exact ⟨k, by simpa using h2, rfl, h1, fun j hj => by simpa using h3 j hj⟩
theorem fstU_congr {B C : Nat → Bool} {n : Nat} (h : ∀ j, j < n → B j = C j) : fstU B n = fstU C n := by
  rcases fstU_cases C n with ⟨e, hh⟩ | ⟨k, hk, e, h1, h2⟩
  · rw [e]; exact fstU_miss (fun j hj => by rw [h j hj]; exact hh j hj)
  · rw [e]; exact fstU_hit hk (by rw [h k hk]; exact h1) (fun j hj => by rw [h j (by omega)]; exact h2 j hj)
/-- The least node that is not even, or -1. -/
def unI (ps cs : List Int) : Int := fstU (unB ps cs) ps.length
def unV (ps ws cs : List Int) : Value := if (goodM ps ws cs && decide (0 ≤ unI ps cs)) = true then .tuple #[.int .i64 (unI ps cs), .bool true] else .tuple #[.int .i64 0, .bool false]
theorem unV_form (ps ws cs : List Int) : ∃ k ok, unV ps ws cs = .tuple #[.int .i64 k, .bool ok] := by
  unfold unV; split <;> exact ⟨_, _, rfl⟩
end Go.Proofs.Ytamneibnjbimeaa
