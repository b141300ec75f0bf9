/- Fractions in the program: blocks of pairs, lowest terms of any sign. -/
import Derived.Test.YtligidmkhbcpmacFracR
import Derived.WalkKit
import Derived.ProofKit
import Derived.Outline
import Derived.Below
import Derived.Lib.Hide
import Derived.WalkSmall
import Derived.WalkSpells
import Derived.WalkLawsBesides
import Derived.IntWalk
namespace Go.Proofs.Ytligidmkhbcpmac
open Go.RowKit
set_option linter.unusedVariables false
def zeroP : Value := .tuple #[.agg #[.int .i64 0, .int .i64 0], .bool false]
theorem keptV_form (n d : Int) : ∃ p q ok, keptV n d = .tuple #[.agg #[.int .i64 p, .int .i64 q], .bool ok] := by
  unfold keptV; split
  · exact ⟨_, _, _, rfl⟩
  · exact ⟨_, _, _, rfl⟩
theorem reduceI (a b : Int) (w : World) (ha : -4000000000000000000 ≤ a ∧ a ≤ 4000000000000000000) (hb : b ≠ 0 ∧ -4000000000000000000 ≤ b ∧ b ≤ 4000000000000000000) :
    Calls Try.prog 199 #[.int .i64 a, .int .i64 b] w (Gives (if 0 < b then keptV (cutN a b) (cutD a b) else keptV (cutN (-a) (-b)) (cutD (-a) (-b))) w) := by
  by_cases h : 0 < b
  · rw [if_pos h]; exact reduceI_pos a b w ha ⟨h, by omega⟩
  · rw [if_neg h]; exact reduceI_neg a b w ha ⟨by omega, by omega⟩
theorem heap_one (w : World) (a : Obj) : (w.alloc a).heap[w.heap.size]? = some a := by
  show (w.heap.push a)[w.heap.size]? = _
  simp
/-- The three blocks of a function of two pairs with a pair among its results. -/
def Blocks3 (w : World) (n d m e : Int) : World := ((w.alloc (.cells #[.int .i64 n, .int .i64 d] 26)).alloc (.cells #[.int .i64 m, .int .i64 e] 26)).alloc (.cells #[.int .i64 0, .int .i64 0] 26)
theorem blocks3_below (w : World) (n d m e : Int) : Below w.heap.size w (Blocks3 w n d m e) :=
  (((Below.refl w.heap.size w).alloc (Nat.le_refl _) _).alloc (by simp) _).alloc (by simp; omega) _
theorem blocks3_size (w : World) (n d m e : Int) : (Blocks3 w n d m e).heap.size = w.heap.size + 3 := by simp [Blocks3]
theorem blocks3_heap {w w1 : World} {n d m e : Int} (hb : Below (Blocks3 w n d m e).heap.size (Blocks3 w n d m e) w1) :
    w1.heap[w.heap.size]? = some (.cells #[.int .i64 n, .int .i64 d] 26 (0, 0)) ∧ w1.heap[w.heap.size + 1]? = some (.cells #[.int .i64 m, .int .i64 e] 26 (0, 0)) ∧ w1.heap[w.heap.size + 1 + 1]? = some (.cells #[.int .i64 0, .int .i64 0] 26 (0, 0)) := by
  obtain ⟨h0, h1, h2⟩ := heap_three w (.cells #[.int .i64 n, .int .i64 d] 26) (.cells #[.int .i64 m, .int .i64 e] 26) (.cells #[.int .i64 0, .int .i64 0] 26)
  have hs := blocks3_size w n d m e
  exact ⟨(hb.block _ (by omega)).trans h0, (hb.block _ (by omega)).trans h1, (hb.block _ (by omega)).trans h2⟩
/-- The cells of the three blocks. -/
structure Cells3 (w w1 : World) (n d m e : Int) : Prop where
  a0 : w1.cell? ⟨w.heap.size, 0, none⟩ = some (.int .i64 n)
  a1 : w1.cell? ⟨w.heap.size, 1, none⟩ = some (.int .i64 d)
  b0 : w1.cell? ⟨w.heap.size + 1, 0, none⟩ = some (.int .i64 m)
  b1 : w1.cell? ⟨w.heap.size + 1, 1, none⟩ = some (.int .i64 e)
  c0 : w1.cell? ⟨w.heap.size + 1 + 1, 0, none⟩ = some (.int .i64 0)
  c1 : w1.cell? ⟨w.heap.size + 1 + 1, 1, none⟩ = some (.int .i64 0)
  f0 : w1.frozen? ⟨w.heap.size + 1 + 1, 0, none⟩ = false
  f1 : w1.frozen? ⟨w.heap.size + 1 + 1, 1, none⟩ = false
theorem cells3 {w w1 : World} {n d m e : Int} (hb : Below (Blocks3 w n d m e).heap.size (Blocks3 w n d m e) w1) : Cells3 w w1 n d m e := by
  obtain ⟨h0, h1, h2⟩ := blocks3_heap hb
  exact ⟨(cell_of_heap (o := 0) h0 rfl).1, (cell_of_heap (o := 1) h0 rfl).1, (cell_of_heap (o := 0) h1 rfl).1, (cell_of_heap (o := 1) h1 rfl).1,
    (cell_of_heap (o := 0) h2 rfl).1, (cell_of_heap (o := 1) h2 rfl).1, (cell_of_heap (o := 0) h2 rfl).2, (cell_of_heap (o := 1) h2 rfl).2⟩
theorem mul_bd {x y : Int} (X Y : Nat) (hx : -(X : Int) ≤ x ∧ x ≤ X) (hy : -(Y : Int) ≤ y ∧ y ≤ Y) : -((X : Int) * Y) ≤ x * y ∧ x * y ≤ (X : Int) * Y := by
  have h : (x * y).natAbs ≤ X * Y := by rw [Int.natAbs_mul]; exact Nat.mul_le_mul (by omega) (by omega)
  have e : ((X * Y : Nat) : Int) = (X : Int) * Y := Int.natCast_mul X Y
  omega
theorem reduceI_any (a b : Int) (w : World) (ha : -4000000000000000000 ≤ a ∧ a ≤ 4000000000000000000) (hb : 0 < b ∧ b ≤ 4000000000000000000) :
    Calls Try.prog 199 #[.int .i64 a, .int .i64 b] w (Gives (keptV (cutN a b) (cutD a b)) w) := reduceI_pos a b w ha hb
def zeroC : Value := .tuple #[.int .i64 0, .bool false]
/-- The two blocks of a function of two pairs. -/
def Blocks2 (w : World) (n d m e : Int) : World := (w.alloc (.cells #[.int .i64 n, .int .i64 d] 26)).alloc (.cells #[.int .i64 m, .int .i64 e] 26)
theorem blocks2_below (w : World) (n d m e : Int) : Below w.heap.size w (Blocks2 w n d m e) :=
  ((Below.refl w.heap.size w).alloc (Nat.le_refl _) _).alloc (by simp) _
theorem blocks2_size (w : World) (n d m e : Int) : (Blocks2 w n d m e).heap.size = w.heap.size + 2 := by simp [Blocks2]
structure Cells2 (w w1 : World) (n d m e : Int) : Prop where
  a0 : w1.cell? ⟨w.heap.size, 0, none⟩ = some (.int .i64 n)
  a1 : w1.cell? ⟨w.heap.size, 1, none⟩ = some (.int .i64 d)
  b0 : w1.cell? ⟨w.heap.size + 1, 0, none⟩ = some (.int .i64 m)
  b1 : w1.cell? ⟨w.heap.size + 1, 1, none⟩ = some (.int .i64 e)
theorem cells2 {w w1 : World} {n d m e : Int} (hb : Below (Blocks2 w n d m e).heap.size (Blocks2 w n d m e) w1) : Cells2 w w1 n d m e := by
  obtain ⟨h0, h1⟩ := heap_two w (.cells #[.int .i64 n, .int .i64 d] 26) (.cells #[.int .i64 m, .int .i64 e] 26)
  have hs := blocks2_size w n d m e
  have k0 := (hb.block _ (by omega)).trans h0
  have k1 := (hb.block _ (by omega)).trans h1
  exact ⟨(cell_of_heap (o := 0) k0 rfl).1, (cell_of_heap (o := 1) k0 rfl).1, (cell_of_heap (o := 0) k1 rfl).1, (cell_of_heap (o := 1) k1 rfl).1⟩
end Go.Proofs.Ytligidmkhbcpmac
