/- What the laws' helpers do with pairs. -/
import Derived.Test.YtligidmkhbcpmacTreeH
import Derived.WalkKit
import Derived.ProofKit
import Derived.Outline
import Derived.Lib.Hide
import Derived.WalkSpells
import Derived.WalkSmall
import Derived.Deep.QuietTactic
import Derived.BigQuiet
namespace Go.Proofs.Ytligidmkhbcpmac
open Go.RowKit
set_option linter.unusedVariables false
set_option maxHeartbeats 1000000 in
theorem eqP (a b : Int) (w : World) :
    Calls Try.prog 17 #[.agg #[.int .i64 a, .int .i64 b], .agg #[.int .i64 a, .int .i64 b]] w fun e w' => e = .returned (.bool true) ∧ Below w.heap.size w w' := by
  have B3 := ((Below.refl w.heap.size w).alloc (Nat.le_refl _) (.cells #[.int .i64 a, .int .i64 b] 26)).alloc (by simp) (.cells #[.int .i64 a, .int .i64 b] 26)
  obtain ⟨hh0, hh1, _⟩ := heap_three w (.cells #[.int .i64 a, .int .i64 b] 26) (.cells #[.int .i64 a, .int .i64 b] 26) (.cells #[] 26)
  have hh0' : ((w.alloc (.cells #[.int .i64 a, .int .i64 b] 26)).alloc (.cells #[.int .i64 a, .int .i64 b] 26)).heap[w.heap.size]? = some (.cells #[.int .i64 a, .int .i64 b] 26 (0, 0)) := by
    show ((w.heap.push _).push _)[w.heap.size]? = _
    rw [Array.getElem?_push, if_neg (by simp), Array.getElem?_push, if_pos rfl]
  have hh1' : ((w.alloc (.cells #[.int .i64 a, .int .i64 b] 26)).alloc (.cells #[.int .i64 a, .int .i64 b] 26)).heap[w.heap.size + 1]? = some (.cells #[.int .i64 a, .int .i64 b] 26 (0, 0)) := by
    show ((w.heap.push _).push _)[w.heap.size + 1]? = _
    rw [Array.getElem?_push, if_pos (by simp)]
  obtain ⟨x00, _⟩ := cell_of_heap (o := 0) hh0' rfl
  obtain ⟨x01, _⟩ := cell_of_heap (o := 1) hh0' rfl
  obtain ⟨x10, _⟩ := cell_of_heap (o := 0) hh1' rfl
  obtain ⟨x11, _⟩ := cell_of_heap (o := 1) hh1' rfl
  clear hh0 hh1 hh0' hh1'
  obtain ⟨W, hW⟩ : ∃ W, W = ((w.alloc (.cells #[.int .i64 a, .int .i64 b] 26)).alloc (.cells #[.int .i64 a, .int .i64 b] 26)) := ⟨_, rfl⟩
  rw [← hW] at x00 x01 x10 x11 B3
  go_enter Try.func17, Try.ntmps17
  go_wp2
  rw [← hW]
  clear hW
  go_loopw [5] (fun i wr => (i = .int .i64 0 ∨ i = .int .i64 1 ∨ i = .int .i64 2) ∧ ∃ n, wr = W.drewN n) (fun i _ => 2 - (intOf i).toNat)
  case atStart => exact ⟨.inl rfl, 0, rfl⟩
  case round =>
    obtain ⟨hi, n, rfl⟩ := hrel
    rcases hi with rfl | rfl | rfl
    · go_wp2
      go_quiet (fail)
      go_wp2
      go_roundw
      case rel => exact ⟨.inr (.inl rfl), _, rfl⟩
      case measure => simp [intOf]
    · go_wp2
      go_quiet (fail)
      go_wp2
      go_roundw
      case rel => exact ⟨.inr (.inr rfl), _, rfl⟩
      case measure => simp [intOf]
    · go_wp2
      go_ret
      exact ⟨rfl, below_drewN B3 n⟩
end Go.Proofs.Ytligidmkhbcpmac
