/- The chance and the mean of ruin, in the program. -/
import Derived.Test.YtligidmkhbcpmaaRuiP
import Derived.Test.YtligidmkhbcpmaaPowI
import Derived.Test.YtligidmkhbcpmaaFracB
namespace Go.Proofs.Ytligidmkhbcpmaa
open Go.RowKit
set_option linter.unusedVariables false
theorem pow_le_of {a : Nat} (h : a ≤ 20) {k : Nat} (hk : k ≤ 12) : ∀ j, j ≤ k → a ^ j ≤ 4096000000000000 := fun j hj => pow_bd h (by omega)
def gamOk (a b n : Int) : Bool := decide ((1 ≤ a ∧ a ≤ 20) ∧ (1 ≤ b ∧ b ≤ 20) ∧ (1 ≤ n ∧ n ≤ 12))
def gamV (a b n : Int) : Value := if gamOk a b n = true then .tuple #[.agg #[.int .i64 a, .int .i64 b, .int .i64 n], .bool true] else .tuple #[.agg #[.int .i64 0, .int .i64 0, .int .i64 0], .bool false]
theorem gamOk_mk {a b n : Int} (h : gamOk a b n = true) : ∃ A B N : Nat, a = A ∧ b = B ∧ n = N ∧ (1 ≤ A ∧ A ≤ 20) ∧ (1 ≤ B ∧ B ≤ 20) ∧ 1 ≤ N ∧ N ≤ 12 := by
  unfold gamOk at h
  rw [decide_eq_true_iff] at h
  exact ⟨a.toNat, b.toNat, n.toNat, by omega, by omega, by omega, by omega, by omega, by omega⟩

def prX (a b i n : Nat) : Int := if a = b then i else ipT a b i n
def prY (a b n : Nat) : Int := if a = b then n else ipB a b n
def ruinOk (a b i n : Int) : Bool := gamOk a b n && decide (0 ≤ i ∧ i ≤ n)
def rcV (a b i n : Int) : Value := if ruinOk a b i n = true then keptV (rcN a.toNat b.toNat i.toNat n.toNat) (rcD a.toNat b.toNat i.toNat n.toNat) else zeroP
def rmK (a b i n : Nat) : Value := if a = b then keptV ((i : Int) * ((n : Int) - i)) 1 else keptV (cutN (rmN' a b i n) (rmD' a b i n)) (cutD (rmN' a b i n) (rmD' a b i n))
def rmV (a b i n : Int) : Value := if ruinOk a b i n = true then rmK a.toNat b.toNat i.toNat n.toNat else zeroP
theorem rmK_form (a b i n : Nat) : ∃ p q ok, rmK a b i n = .tuple #[.agg #[.int .i64 p, .int .i64 q], .bool ok] := by
  unfold rmK; split <;> exact keptV_form _ _
theorem rcV_form (a b i n : Int) : ∃ p q ok, rcV a b i n = .tuple #[.agg #[.int .i64 p, .int .i64 q], .bool ok] := by
  unfold rcV zeroP; split
  · exact keptV_form _ _
  · exact ⟨_, _, _, rfl⟩
theorem rmV_form (a b i n : Int) : ∃ p q ok, rmV a b i n = .tuple #[.agg #[.int .i64 p, .int .i64 q], .bool ok] := by
  unfold rmV zeroP; split
  · exact rmK_form _ _ _ _
  · exact ⟨_, _, _, rfl⟩
theorem mul_in {i n : Nat} (hi : i ≤ n) (hn : n ≤ 12) : 0 ≤ (i : Int) * ((n : Int) - i) ∧ (i : Int) * ((n : Int) - i) ≤ 144 := by
  rw [show (n : Int) - i = ((n - i : Nat) : Int) by omega, ← Int.natCast_mul]
  have : i * (n - i) ≤ 12 * 12 := Nat.mul_le_mul (by omega) (by omega)
  omega
theorem ruin_mk {a b i n : Int} (h : ruinOk a b i n = true) : ∃ A B I N : Nat, a = A ∧ b = B ∧ i = I ∧ n = N ∧ (1 ≤ A ∧ A ≤ 20) ∧ (1 ≤ B ∧ B ≤ 20) ∧ (1 ≤ N ∧ N ≤ 12) ∧ I ≤ N := by
  unfold ruinOk at h
  rw [Bool.and_eq_true, decide_eq_true_iff] at h
  obtain ⟨A, B, N, rfl, rfl, rfl, h1, h2, h3, h4⟩ := gamOk_mk h.1
  exact ⟨A, B, i.toNat, N, rfl, rfl, by omega, rfl, h1, h2, ⟨h3, h4⟩, by omega⟩
theorem below_box {V w1 w2 : World} {o : Obj} (h : Below V.heap.size V w1) (b : Below (w1.alloc o).heap.size (w1.alloc o) w2) : Below V.heap.size V w2 :=
  (h.alloc h.size o).trans (b.mono (by have := h.size; simp; omega))
theorem below_then {V w1 w2 : World} (h : Below V.heap.size V w1) (b : Below w1.heap.size w1 w2) : Below V.heap.size V w2 := h.trans (b.mono h.size)

end Go.Proofs.Ytligidmkhbcpmaa
