/- Pays, weighed by the ends' Weights. -/
import Derived.Test.YtligidmkhbcpmacPayI
import Derived.Test.YtligidmkhbcpmacSumI
import Derived.Test.YtligidmkhbcpmacSumsI
import Derived.Test.YtligidmkhbcpmacVBox
import Derived.IntWalk
namespace Go.Proofs.Ytligidmkhbcpmac
open Go.RowKit
set_option linter.unusedVariables false
/-- How many ends lie before a node. -/
def rankL (ps : List Int) (x : Nat) : Nat := (nodesW (leafB ps) x).length
theorem nodes_rank (p : Nat → Bool) : ∀ n x, x < n → p x = true → (nodesW p x).length < (nodesW p n).length ∧ (nodesW p n).getD (nodesW p x).length 0 = (x : Int) := by
  intro n
  induction n with
  | zero => intro x hx; omega
  | succ n ih =>
    intro x hx hp
    rcases Nat.lt_or_ge x n with h | h
    · obtain ⟨h1, h2⟩ := ih x h hp
      cases hn : p n
      · rw [nodesW_no hn]; exact ⟨h1, h2⟩
      · rw [nodesW_yes hn]
        refine ⟨by rw [List.length_append]; omega, ?_⟩
        rw [getD_app_left h1]; exact h2
    · obtain rfl : x = n := by omega
      rw [nodesW_yes hp]
      exact ⟨by simp, getD_app_right⟩
theorem rank_end {ps : List Int} {x : Nat} (hx : x < ps.length) (hl : leafB ps x = true) : rankL ps x < (endsT ps).length ∧ (endsT ps).getD (rankL ps x) 0 = (x : Int) := nodes_rank (leafB ps) ps.length x hx hl
theorem ends_up (ps : List Int) : (endsT ps).Pairwise (· < ·) := by
  have key : ∀ n, (nodesW (leafB ps) n).Pairwise (· < ·) ∧ ∀ z ∈ nodesW (leafB ps) n, z < (n : Int) := by
    intro n
    induction n with
    | zero => exact ⟨List.Pairwise.nil, fun z hz => by cases hz⟩
    | succ n ih =>
      cases hn : leafB ps n
      · rw [nodesW_no hn]; exact ⟨ih.1, fun z hz => by have := ih.2 z hz; omega⟩
      · rw [nodesW_yes hn]
        refine ⟨List.pairwise_append.2 ⟨ih.1, by simp, fun a ha b hb => by simp at hb; subst hb; exact ih.2 a ha⟩, fun z hz => ?_⟩
        rcases List.mem_append.1 hz with h | h
        · have := ih.2 z h; omega
        · simp at h; omega
  exact (key ps.length).1
/-- The products of the ends' Weights and values. -/
def valsT (ps ws vs : List Int) : List Int := (List.range ps.length).map fun x => if leafB ps x = true then ws.getD x 0 * vs.getD (rankL ps x) 0 else 0
theorem valsT_len (ps ws vs : List Int) : (valsT ps ws vs).length = ps.length := by simp [valsT]
theorem valsT_at {ps ws vs : List Int} {x : Nat} (hx : x < ps.length) : (valsT ps ws vs).getD x 0 = if leafB ps x = true then ws.getD x 0 * vs.getD (rankL ps x) 0 else 0 := by
  rw [List.getD_eq_getElem?_getD, List.getElem?_eq_getElem (by rw [valsT_len]; exact hx)]
  simp [valsT]
theorem natAbs_mul_le {x y : Int} {a b : Nat} (hx : x.natAbs ≤ a) (hy : y.natAbs ≤ b) : (x * y).natAbs ≤ a * b := by
  rw [Int.natAbs_mul]; exact Nat.mul_le_mul hx hy
theorem valsT_abs {ps ws vs : List Int} (g : Good ps ws) (B : Nat) (hb : ∀ i, (vs.getD i 0).natAbs ≤ B) {x : Nat} (hx : x < ps.length) : ((valsT ps ws vs).getD x 0).natAbs ≤ 20 * B := by
  rw [valsT_at hx]
  split
  · have := g.w_bd hx
    exact natAbs_mul_le (by omega) (hb _)
  · simp
theorem valsT_sum {ps ws vs : List Int} (g : Good ps ws) (B : Nat) (hb : ∀ i, (vs.getD i 0).natAbs ≤ B) : absTo (valsT ps ws vs) ps.length ≤ ((ps.length * (20 * B) : Nat) : Int) := by
  have h := absTo_le (L := valsT ps ws vs) (B := ((20 * B : Nat) : Int)) ps.length (fun y hy => by have := valsT_abs (vs := vs) g B hb hy; omega)
  rw [Int.natCast_mul]; exact h
/-- The sum over the whole tree. -/
def totT (ps ws vs : List Int) : Int := (upL ps (valsT ps ws vs) (ps.length - 1)).getD 0 0
theorem totT_bd {ps ws vs : List Int} (g : Good ps ws) (B : Nat) (hb : ∀ i, (vs.getD i 0).natAbs ≤ B) : (totT ps ws vs).natAbs ≤ 480 * B := by
  have h1 := (upL_abs (ParOk.of g) (valsT_len ps ws vs) (ps.length - 1) (by have := g.n1; omega)).2 0 (by have := g.n1; omega)
  have h2 := valsT_sum (vs := vs) g B hb
  have h3 : ps.length * (20 * B) ≤ 24 * (20 * B) := Nat.mul_le_mul_right _ g.n24
  unfold totT
  omega
/-- The products of two lists. -/
def prodL (a b : List Int) : List Int := (List.range a.length).map fun i => a.getD i 0 * b.getD i 0
theorem prodL_len (a b : List Int) : (prodL a b).length = a.length := by simp [prodL]
theorem prodL_at {a b : List Int} {i : Nat} (hi : i < a.length) : (prodL a b).getD i 0 = a.getD i 0 * b.getD i 0 := by
  rw [List.getD_eq_getElem?_getD, List.getElem?_eq_getElem (by rw [prodL_len]; exact hi)]
  simp [prodL]
theorem Pay.abs {ps ws vs : List Int} (p : Pay ps ws vs) (i : Nat) : (vs.getD i 0).natAbs ≤ 999 := by
  rcases Nat.lt_or_ge i vs.length with h | h
  · have := p.bd i h; omega
  · rw [List.getD_eq_getElem?_getD, List.getElem?_eq_none h]; simp
theorem prod_abs {ps ws a b : List Int} (pa : Pay ps ws a) (pb : Pay ps ws b) (i : Nat) : ((prodL a b).getD i 0).natAbs ≤ 998001 := by
  rcases Nat.lt_or_ge i a.length with h | h
  · rw [prodL_at h]; exact natAbs_mul_le (a := 999) (b := 999) (pa.abs i) (pb.abs i)
  · rw [List.getD_eq_getElem?_getD, List.getElem?_eq_none (by rw [prodL_len]; exact h)]; simp
theorem Pay.look {ps ws vs : List Int} (p : Pay ps ws vs) {x : Nat} (hx : x < ps.length) (hl : leafB ps x = true) : pairF (endsT ps) vs (endsT ps).length (x : Int) = some (vs.getD (rankL ps x) 0) := by
  obtain ⟨h1, h2⟩ := rank_end hx hl
  have h := pairF_at (es := endsT ps) (vs := vs) (ends_up ps) (endsT ps).length (Nat.le_refl _) (rankL ps x) h1
  rwa [h2] at h
theorem MapI.drewN {w : World} {b n : Nat} {f : Int → Option Int} (h : MapI w b n f) (k : Nat) : MapI (w.drewN k) b n f := h.next (below_drewN (Below.refl _ _) k)
end Go.Proofs.Ytligidmkhbcpmac
