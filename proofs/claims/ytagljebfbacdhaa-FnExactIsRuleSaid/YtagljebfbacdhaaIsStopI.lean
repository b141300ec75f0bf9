/- IsStopping and StopAt in the program. -/
import Derived.Test.YtagljebfbacdhaaStopI
import Derived.Test.YtagljebfbacdhaaStopM
import Derived.Test.YtagljebfbacdhaaNode
namespace Go.Proofs.Ytagljebfbacdhaa
open Go.RowKit
set_option linter.unusedVariables false
set_option maxHeartbeats 2000000 in
theorem isStopI (ps ws ss : List Int) (v u : Value) (w : World) (hl : ss.length ≤ 1048576) (h : TreeV w w.heap.size v ps ws) (hu : IntsV w w.heap.size u ss) :
    Calls Try.prog 54 #[v, u] w (Gives (stopV ps ws ss) w) := by
  have SN := Lib.hid (fun w' (hb : Below w.heap.size w w') => stopNodesI ps ws ss v u w' hl (h.boxed hb) ((hu.below hb).more hb.size))
  have G := Lib.hid (fun w' (hb : Below w.heap.size w w') => isTreeI ps ws v w' (h.boxed hb))
  obtain ⟨p1, c1, p2, c2, rfl⟩ := h.shape
  obtain ⟨q, cq, rfl, _⟩ := hu
  clear h
  have D : Hid (stopV ps ws ss = .tuple #[.bool (stopB ps ws ss), .bool (goodT ps ws)]) := Lib.hid rfl
  have B1 := Lib.hid ((Below.refl w.heap.size w).alloc (Nat.le_refl _) (.cells #[.slice p1 ps.length c1, .slice p2 ws.length c2] 28))
  have T1 := Lib.hid (show TBox (w.alloc (.cells #[.slice p1 ps.length c1, .slice p2 ws.length c2] 28)) w.heap.size (.slice p1 ps.length c1) (.slice p2 ws.length c2) from alloc_heap w _)
  obtain ⟨x0, x1⟩ := T1.out.cells
  obtain ⟨wa, hwa⟩ : ∃ wa, wa = w.alloc (.cells #[.slice p1 ps.length c1, .slice p2 ws.length c2] 28) := ⟨_, rfl⟩
  rw [← hwa] at B1 T1
  generalize stopB ps ws ss = bb at *
  generalize goodT ps ws = bg at *
  go_enter Try.func54, Try.ntmps54
  go_wp2_with fail
  rw [← hwa]
  clear hwa x0 x1
  refine (SN.out _ B1.out).mono ?_
  rintro e w1 ⟨u1, rfl, o1, b1⟩
  have HB1 := Lib.hid (B1.out.trans (b1.mono B1.out.size))
  obtain ⟨y0, y1⟩ := (T1.out.below b1 T1.out.lt).cells
  clear b1 o1
  go_wp2_with fail
  refine (G.out _ HB1.out).mono ?_
  rintro e w2 ⟨rfl, b2⟩
  have HB2 := Lib.hid (HB1.out.trans (b2.mono HB1.out.size))
  clear b2
  go_wp2_with fail
  go_ret2
  rw [D.out]
  exact ⟨rfl, HB2.out⟩
end Go.Proofs.Ytagljebfbacdhaa
