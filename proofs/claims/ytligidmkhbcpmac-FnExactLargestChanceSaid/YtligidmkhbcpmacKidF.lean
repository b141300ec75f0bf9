/- Sums over lists of nodes. No program is spoken of here. -/
import Derived.Test.YtligidmkhbcpmacKidSum
namespace Go.Proofs.Ytligidmkhbcpmac
open Go.RowKit
set_option linter.unusedVariables false
theorem sumTo_bound {L : List Int} {B : Nat} : ∀ k : Nat, (∀ y, y < k → (L.getD y 0).natAbs ≤ B) → (sumTo L k).natAbs ≤ k * B := by
  intro k
  induction k with
  | zero => intro _; simp [sumTo]
  | succ k ih =>
    intro h
    have h1 := ih (fun y hy => h y (by omega))
    have h2 := h k (by omega)
    rw [sumTo, Nat.succ_mul]
    omega
/-- What the model gathers from the children. -/
def kidF (f : Nat → Int) (L : List Int) : Int := L.foldl (fun a y => a + f y.toNat) 0
theorem kidF_app (f : Nat → Int) (L : List Int) (z : Int) : kidF f (L ++ [z]) = kidF f L + f z.toNat := by
  unfold kidF; rw [List.foldl_append]; rfl
theorem kidF_take (f : Nat → Int) {L : List Int} {k : Nat} (h : k < L.length) : kidF f (L.take (k + 1)) = kidF f (L.take k) + f (L.getD k 0).toNat := by
  rw [List.take_succ_eq_append_getElem h, kidF_app, List.getD_eq_getElem?_getD, List.getElem?_eq_getElem h]; rfl
theorem kidF_all (f : Nat → Int) {L : List Int} {k : Nat} (h : L.length ≤ k) : kidF f (L.take k) = kidF f L := by rw [List.take_of_length_le h]
theorem kidF_bd {f : Nat → Int} {L : List Int} {B : Nat} (hb : ∀ z ∈ L, (f z.toNat).natAbs ≤ B) : ∀ k, k ≤ L.length → (kidF f (L.take k)).natAbs ≤ k * B := by
  intro k
  induction k with
  | zero => intro _; simp [kidF]
  | succ k ih =>
    intro h
    have h1 := ih (by omega)
    have h2 := hb (L.getD k 0) (by
      rw [List.getD_eq_getElem?_getD, List.getElem?_eq_getElem (by omega)]
      exact List.getElem_mem _)
    rw [kidF_take f (by omega), Nat.succ_mul]
    omega
theorem kidF_nodes (f : Nat → Int) (p : Nat → Bool) (m : Nat) : ∀ n, n ≤ m → kidF f (nodesW p n) = sumTo ((List.range m).map fun y => if p y = true then f y else 0) n := by
  intro n
  induction n with
  | zero => intro _; rfl
  | succ n ih =>
    intro h
    have h1 := ih (by omega)
    have hat : ((List.range m).map fun y => if p y = true then f y else 0).getD n 0 = if p n = true then f n else 0 := by
      rw [List.getD_eq_getElem?_getD, List.getElem?_map, List.getElem?_range (by omega)]; rfl
    rw [sumTo, hat]
    cases hp : p n
    · rw [nodesW_no hp, h1]; simp
    · rw [nodesW_yes hp, kidF_app, h1, Int.toNat_natCast]; simp
end Go.Proofs.Ytligidmkhbcpmac
