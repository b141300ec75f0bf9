/- Orders of people that are won by a rule, counted. No program is spoken of here. -/
import Derived.Test.YtnpiciabpgkiiadSecP
namespace Go.Proofs.Ytnpiciabpgkiiad
set_option linter.unusedVariables false
/-- Whether the rule takes the best one: b is one more than the best so far. -/
def wonG (n r : Nat) : List Nat → Nat → Nat → Bool
  | [], _, _ => false
  | y :: L, i, b => if decide (r ≤ i) && (decide (b ≤ y) || decide (i + 1 = n)) then decide (y + 1 = n) else wonG n r L (i + 1) (max b (y + 1))
def upTo (f : Nat → Nat) : Nat → Nat
  | 0 => 0
  | x + 1 => upTo f x + f x
def winsF (n r : Nat) : Nat → List Nat → Nat
  | 0, L => if wonG n r L 0 0 = true then 1 else 0
  | d + 1, L => upTo (fun x => if L.contains x = true then 0 else winsF n r d (L ++ [x])) n
def facN : Nat → Nat
  | 0 => 1
  | n + 1 => facN n * (n + 1)
theorem upTo_bd {f : Nat → Nat} {B : Nat} (h : ∀ x, f x ≤ B) : ∀ k, upTo f k ≤ k * B
  | 0 => by simp [upTo]
  | k + 1 => by
    have a := upTo_bd h k
    have b := h k
    rw [Nat.succ_mul]
    simp only [upTo]; omega
theorem winsF_bd (n r : Nat) : ∀ d L, winsF n r d L ≤ n ^ d
  | 0, L => by simp only [winsF]; split <;> simp
  | d + 1, L => by
    simp only [winsF]
    have := upTo_bd (f := fun x => if L.contains x = true then 0 else winsF n r d (L ++ [x])) (B := n ^ d) (fun x => by
      show (if L.contains x = true then 0 else winsF n r d (L ++ [x])) ≤ n ^ d
      split
      · omega
      · exact winsF_bd n r d _) n
    rw [Nat.pow_succ, Nat.mul_comm]
    exact this
set_option maxRecDepth 100000 in
theorem wins_eq6 : ∀ n : Nat, n < 7 → ∀ r : Nat, r < 7 → r < n → Int.tdiv ((facN n : Int) * scN n r) (scD n r) = (winsF n r n [] : Nat) := by decide +kernel
end Go.Proofs.Ytnpiciabpgkiiad
