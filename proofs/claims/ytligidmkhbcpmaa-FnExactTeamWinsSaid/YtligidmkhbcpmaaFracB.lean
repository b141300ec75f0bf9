/- Fractions in the program: blocks of pairs, lowest terms of any sign. -/
import Derived.Test.YtligidmkhbcpmaaFracR
import Derived.WalkKit
import Derived.ProofKit
import Derived.Outline
import Derived.Below
import Derived.Lib.Hide
import Derived.WalkSmall
import Derived.WalkSpells
import Derived.WalkLawsBesides
import Derived.IntWalk
namespace Go.Proofs.Ytligidmkhbcpmaa
open Go.RowKit
set_option linter.unusedVariables false
def zeroP : Value := .tuple #[.agg #[.int .i64 0, .int .i64 0], .bool false]
theorem keptV_form (n d : Int) : ∃ p q ok, keptV n d = .tuple #[.agg #[.int .i64 p, .int .i64 q], .bool ok] := by
  unfold keptV; split
  · exact ⟨_, _, _, rfl⟩
  · exact ⟨_, _, _, rfl⟩
theorem heap_one (w : World) (a : Obj) : (w.alloc a).heap[w.heap.size]? = some a := by
  show (w.heap.push a)[w.heap.size]? = _
  simp
/-- The cells of the three blocks. -/
structure Cells3 (w w1 : World) (n d m e : Int) : Prop where
  a0 : w1.cell? ⟨w.heap.size, 0, none⟩ = some (.int .i64 n)
  a1 : w1.cell? ⟨w.heap.size, 1, none⟩ = some (.int .i64 d)
  b0 : w1.cell? ⟨w.heap.size + 1, 0, none⟩ = some (.int .i64 m)
  b1 : w1.cell? ⟨w.heap.size + 1, 1, none⟩ = some (.int .i64 e)
  c0 : w1.cell? ⟨w.heap.size + 1 + 1, 0, none⟩ = some (.int .i64 0)
  c1 : w1.cell? ⟨w.heap.size + 1 + 1, 1, none⟩ = some (.int .i64 0)
  f0 : w1.frozen? ⟨w.heap.size + 1 + 1, 0, none⟩ = false
  f1 : w1.frozen? ⟨w.heap.size + 1 + 1, 1, none⟩ = false
theorem mul_bd {x y : Int} (X Y : Nat) (hx : -(X : Int) ≤ x ∧ x ≤ X) (hy : -(Y : Int) ≤ y ∧ y ≤ Y) : -((X : Int) * Y) ≤ x * y ∧ x * y ≤ (X : Int) * Y := by
  have h : (x * y).natAbs ≤ X * Y := by rw [Int.natAbs_mul]; exact Nat.mul_le_mul (by omega) (by omega)
  have e : ((X * Y : Nat) : Int) = (X : Int) * Y := Int.natCast_mul X Y
  omega
def zeroC : Value := .tuple #[.int .i64 0, .bool false]
structure Cells2 (w w1 : World) (n d m e : Int) : Prop where
  a0 : w1.cell? ⟨w.heap.size, 0, none⟩ = some (.int .i64 n)
  a1 : w1.cell? ⟨w.heap.size, 1, none⟩ = some (.int .i64 d)
  b0 : w1.cell? ⟨w.heap.size + 1, 0, none⟩ = some (.int .i64 m)
  b1 : w1.cell? ⟨w.heap.size + 1, 1, none⟩ = some (.int .i64 e)
end Go.Proofs.Ytligidmkhbcpmaa
