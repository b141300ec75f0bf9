/- Pays of ends, in the program. -/
import Derived.Test.YtligidmkhbcpmacEndsL
import Derived.Test.YtligidmkhbcpmacMaps
import Derived.Test.YtligidmkhbcpmacLawT
import Derived.Test.YtligidmkhbcpmacDepthI
namespace Go.Proofs.Ytligidmkhbcpmac
open Go.RowKit
set_option linter.unusedVariables false
theorem ne_grownP {w w3 : World} {r : Option Nat} {g : Nat} (hg : w.grownBy w3 r) (hs : g < w.heap.size) (hne : ∀ q, r = some q → q ≠ g) (o : Nat) : w3.cell? ⟨g, o, none⟩ = w.cell? ⟨g, o, none⟩ := by
  have h := hg.block g hs (fun e => hne g e.symm rfl)
  unfold World.cell?
  rw [h]
def payOk (z : Int) : Bool := decide (-999 ≤ z ∧ z ≤ 999)
/-- Pays of a valid tree. -/
def payB (ps ws vs : List Int) : Bool := goodT ps ws && (decide (vs.length = (endsT ps).length) && vs.all payOk)
structure Pay (ps ws vs : List Int) : Prop where
  good : Good ps ws
  len : vs.length = (endsT ps).length
  bd : ∀ i, i < vs.length → -999 ≤ vs.getD i 0 ∧ vs.getD i 0 ≤ 999
theorem payB_iff {ps ws vs : List Int} : payB ps ws vs = true ↔ Pay ps ws vs := by
  unfold payB
  rw [Bool.and_eq_true, Bool.and_eq_true, decide_eq_true_iff, List.all_eq_true]
  constructor
  · rintro ⟨a, b, c⟩
    refine ⟨Good.of a, b, fun i hi => ?_⟩
    have := c (vs.getD i 0) (by rw [List.getD_eq_getElem?_getD, List.getElem?_eq_getElem hi]; exact List.getElem_mem hi)
    exact of_decide_eq_true this
  · intro p
    refine ⟨(goodT_iff _ _).2 p.good, p.len, fun z hz => ?_⟩
    obtain ⟨i, hi, rfl⟩ := mem_getD hz
    exact decide_eq_true (p.bd i hi)
theorem payB_no {ps ws vs : List Int} {i : Nat} (hi : i < vs.length) (h : payOk (vs.getD i 0) = false) : payB ps ws vs = false := by
  cases hb : payB ps ws vs
  · rfl
  · have := decide_eq_true ((payB_iff.1 hb).bd i hi)
    unfold payOk at h
    rw [this] at h; cases h
/-- The pay of each end. -/
def pairF (es vs : List Int) : Nat → Int → Option Int
  | 0 => fun _ => none
  | k + 1 => putF (pairF es vs k) (es.getD k 0) (some (vs.getD k 0))
theorem pairF_at {es vs : List Int} (hs : es.Pairwise (· < ·)) : ∀ k, k ≤ es.length → ∀ j, j < k → pairF es vs k (es.getD j 0) = some (vs.getD j 0) := by
  intro k
  induction k with
  | zero => intro _ j hj; omega
  | succ k ih =>
    intro hk j hj
    rw [pairF]
    unfold putF
    by_cases h : j = k
    · subst h; rw [if_pos rfl]
    · have hlt : es.getD j 0 < es.getD k 0 := by
        have := List.pairwise_iff_getElem.1 hs j k (by omega) (by omega) (by omega)
        rwa [List.getD_eq_getElem?_getD, List.getD_eq_getElem?_getD, List.getElem?_eq_getElem (by omega : j < es.length), List.getElem?_eq_getElem (by omega : k < es.length)]
      rw [if_neg (by omega)]
      exact ih (by omega) j (by omega)
/-- What paysByEnd returns. -/
def NewPays (ps ws vs : List Int) (w : World) (e : Ending) (w' : World) : Prop :=
  Below w.heap.size w w' ∧ ((payB ps ws vs = true ∧ ∃ b n, e = .returned (.tuple #[.map (some b), .bool true]) ∧ w.heap.size ≤ b ∧ MapI w' b n (pairF (endsT ps) vs (endsT ps).length)) ∨ (payB ps ws vs = false ∧ e = .returned (.tuple #[.map none, .bool false])))
end Go.Proofs.Ytligidmkhbcpmac
