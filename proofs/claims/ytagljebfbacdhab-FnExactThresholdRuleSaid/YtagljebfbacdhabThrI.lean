/- ThresholdRule in the program. -/
import Derived.Test.YtagljebfbacdhabEntI
namespace Go.Proofs.Ytagljebfbacdhab
open Go.RowKit
set_option linter.unusedVariables false
set_option maxRecDepth 100000 in
set_option maxHeartbeats 2000000 in
theorem thrI (ps ws zs : List Int) (lv : Int) (v u1 : Value) (w : World) (hn1 : zs.length ≤ 1048576) (h : TreeV w w.heap.size v ps ws) (hu1 : IntsV w w.heap.size u1 zs) :
    Calls Try.prog 26 #[v, u1, .int .i64 lv] w (NewIntsB (ifEnt ps ws zs (entL ps zs lv)) (procB ps ws zs) w) := by
  have C := Lib.hid (fun w' (hb : Below w.heap.size w w') => entI ps ws zs lv v u1 w' hn1 (h.boxed hb) ((hu1.below hb).more hb.size))
  obtain ⟨p1, c1, p2, c2, rfl⟩ := h.shape
  obtain ⟨q0, d0, rfl, _⟩ := hu1
  clear h
  have B1 := Lib.hid ((Below.refl w.heap.size w).alloc (Nat.le_refl _) (.cells #[.slice p1 ps.length c1, .slice p2 ws.length c2] 28))
  have T1 := Lib.hid (show TBox (w.alloc (.cells #[.slice p1 ps.length c1, .slice p2 ws.length c2] 28)) w.heap.size (.slice p1 ps.length c1) (.slice p2 ws.length c2) from alloc_heap w _)
  obtain ⟨x0, x1⟩ := T1.out.cells
  obtain ⟨wa, hwa⟩ : ∃ wa, wa = w.alloc (.cells #[.slice p1 ps.length c1, .slice p2 ws.length c2] 28) := ⟨_, rfl⟩
  rw [← hwa] at B1 T1
  obtain ⟨R, hR⟩ : ∃ R, R = (ifEnt ps ws zs (entL ps zs lv)) := ⟨_, rfl⟩
  obtain ⟨ok, hok⟩ : ∃ ok, ok = (procB ps ws zs) := ⟨_, rfl⟩
  rw [← hR, ← hok] at C ⊢
  clear hR hok
  go_enter Try.func26, Try.ntmps26
  go_wp2_with fail
  rw [← hwa]
  clear hwa x0 x1
  refine (C.out _ B1.out).mono ?_
  rintro e w1 ⟨u, rfl, o1, b1⟩
  have FIN : Hid (NewIntsB R ok w (.returned (.tuple #[u, .bool ok])) w1) := Lib.hid ⟨_, rfl, o1.low B1.out.size, B1.out.trans (b1.mono B1.out.size)⟩
  clear o1 b1
  go_wp2_with fail
  go_ret2
  exact FIN.out
end Go.Proofs.Ytagljebfbacdhab
