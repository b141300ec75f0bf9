/- IsFraction in the program. -/
import Derived.Test.YtagoodkaobcjaaaFracB
import Derived.WalkKit
import Derived.ProofKit
import Derived.Outline
import Derived.Below
import Derived.Lib.Hide
import Derived.WalkSmall
import Derived.WalkSpells
import Derived.WalkLawsBesides
namespace Go.Proofs.Ytagoodkaobcjaaa
open Go.RowKit
set_option linter.unusedVariables false
set_option maxHeartbeats 1000000 in
theorem isFracI (n d : Int) (w : World) :
    Calls Try.prog 63 #[.agg #[.int .i64 n, .int .i64 d]] w fun e w' => e = .returned (.bool (isFr n d)) ∧ Below w.heap.size w w' := by
  have B1 := (Below.refl w.heap.size w).alloc (Nat.le_refl _) (.cells #[.int .i64 n, .int .i64 d] 32)
  cases hin : inB n d
  · have hr : isFr n d = false := by unfold isFr; rw [hin]; rfl
    rw [hr]
    have C := Lib.hid (fun w => inBI n d w)
    rw [hin] at C
    clear hin hr
    go_enter Try.func63, Try.ntmps63
    go_wp2_with fail
    refine (C.out _).mono ?_
    rintro e w1 ⟨rfl, b1⟩
    go_wp2_with fail
    go_ret
    exact ⟨rfl, B1.trans (b1.mono B1.size)⟩
  · have hb : -1000000000 ≤ n ∧ n ≤ 1000000000 ∧ 1 ≤ d ∧ d ≤ 1000000 := by unfold inB at hin; simpa using hin
    have hr : isFr n d = (gI n d == 1) := by unfold isFr; rw [hin]; rfl
    rw [hr]
    have C := Lib.hid (fun w => inBI n d w)
    rw [hin] at C
    have G := Lib.hid (fun w => gcdI n d w (by omega) (by omega))
    obtain ⟨g, hg⟩ : ∃ g, g = gI n d := ⟨_, rfl⟩
    rw [← hg] at G ⊢
    clear hin hr hg hb
    go_enter Try.func63, Try.ntmps63
    go_wp2_with fail
    refine (C.out _).mono ?_
    rintro e w1 ⟨rfl, b1⟩
    have hh : (w.alloc (.cells #[.int .i64 n, .int .i64 d] 32)).heap[w.heap.size]? = some (.cells #[.int .i64 n, .int .i64 d] 32 (0, 0)) := by
      show (w.heap.push _)[w.heap.size]? = _
      simp
    have k0 := (b1.block w.heap.size (by simp)).trans hh
    obtain ⟨x0, _⟩ := cell_of_heap (o := 0) k0 rfl
    obtain ⟨x1, _⟩ := cell_of_heap (o := 1) k0 rfl
    clear hh k0
    have B2 := Lib.hid (B1.trans (b1.mono B1.size))
    clear B1 b1
    go_wp2_with fail
    refine (G.out _).mono ?_
    rintro e w2 ⟨rfl, rfl⟩
    go_wp2_with fail
    go_ret
    exact ⟨rfl, B2.out⟩
end Go.Proofs.Ytagoodkaobcjaaa
