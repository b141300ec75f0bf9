/- EarlierStop and LaterStop, in the program and in the model. -/
import Derived.Test.YtagljebfbacdhaaPickM
import Derived.Test.YtagljebfbacdhaaGoodS
namespace Go.Proofs.Ytagljebfbacdhaa
open Go.RowKit
set_option linter.unusedVariables false
set_option maxRecDepth 100000 in
set_option maxHeartbeats 2000000 in
theorem earlyI2 (ps ws a b : List Int) (v u1 u2 : Value) (w : World) (hn1 : a.length ≤ 1048576) (hn2 : b.length ≤ 1048576) (h : TreeV w w.heap.size v ps ws) (hu : IntsV w w.heap.size u1 a) (hv : IntsV w w.heap.size u2 b) :
    Calls Try.prog 79 #[v, u1, u2] w (NewIntsB (ifTwo ps ws a b (pickT ps a b false)) (twoB ps ws a b) w) := by
  have C := Lib.hid (fun w' (hb : Below w.heap.size w w') => chooseI ps ws a b 101 false v u1 u2 w' (enters_of Try.func101 (by kernel_rfl) rfl) earlyI hn1 hn2 (h.boxed hb) ((hu.below hb).more hb.size) ((hv.below hb).more hb.size))
  obtain ⟨p1, c1, p2, c2, rfl⟩ := h.shape
  obtain ⟨q1, d1, rfl, _⟩ := hu
  obtain ⟨q2, d2, rfl, _⟩ := hv
  clear h
  have B1 := Lib.hid ((Below.refl w.heap.size w).alloc (Nat.le_refl _) (.cells #[.slice p1 ps.length c1, .slice p2 ws.length c2] 28))
  have T1 := Lib.hid (show TBox (w.alloc (.cells #[.slice p1 ps.length c1, .slice p2 ws.length c2] 28)) w.heap.size (.slice p1 ps.length c1) (.slice p2 ws.length c2) from alloc_heap w _)
  obtain ⟨x0, x1⟩ := T1.out.cells
  obtain ⟨wa, hwa⟩ : ∃ wa, wa = w.alloc (.cells #[.slice p1 ps.length c1, .slice p2 ws.length c2] 28) := ⟨_, rfl⟩
  rw [← hwa] at B1 T1
  generalize ifTwo ps ws a b (pickT ps a b false) = R at *
  generalize twoB ps ws a b = ok at *
  go_enter Try.func79, Try.ntmps79
  go_wp2_with fail
  rw [← hwa]
  clear hwa x0 x1
  refine (C.out _ B1.out).mono ?_
  rintro e w1 ⟨u, rfl, o1, b1⟩
  have FIN : Hid (NewIntsB R ok w (.returned (.tuple #[u, .bool ok])) w1) := Lib.hid ⟨_, rfl, o1.low B1.out.size, B1.out.trans (b1.mono B1.out.size)⟩
  clear o1 b1
  go_wp2_with fail
  go_ret2
  exact FIN.out
set_option maxRecDepth 100000 in
set_option maxHeartbeats 2000000 in
theorem lateI2 (ps ws a b : List Int) (v u1 u2 : Value) (w : World) (hn1 : a.length ≤ 1048576) (hn2 : b.length ≤ 1048576) (h : TreeV w w.heap.size v ps ws) (hu : IntsV w w.heap.size u1 a) (hv : IntsV w w.heap.size u2 b) :
    Calls Try.prog 81 #[v, u1, u2] w (NewIntsB (ifTwo ps ws a b (pickT ps a b true)) (twoB ps ws a b) w) := by
  have C := Lib.hid (fun w' (hb : Below w.heap.size w w') => chooseI ps ws a b 102 true v u1 u2 w' (enters_of Try.func102 (by kernel_rfl) rfl) lateI hn1 hn2 (h.boxed hb) ((hu.below hb).more hb.size) ((hv.below hb).more hb.size))
  obtain ⟨p1, c1, p2, c2, rfl⟩ := h.shape
  obtain ⟨q1, d1, rfl, _⟩ := hu
  obtain ⟨q2, d2, rfl, _⟩ := hv
  clear h
  have B1 := Lib.hid ((Below.refl w.heap.size w).alloc (Nat.le_refl _) (.cells #[.slice p1 ps.length c1, .slice p2 ws.length c2] 28))
  have T1 := Lib.hid (show TBox (w.alloc (.cells #[.slice p1 ps.length c1, .slice p2 ws.length c2] 28)) w.heap.size (.slice p1 ps.length c1) (.slice p2 ws.length c2) from alloc_heap w _)
  obtain ⟨x0, x1⟩ := T1.out.cells
  obtain ⟨wa, hwa⟩ : ∃ wa, wa = w.alloc (.cells #[.slice p1 ps.length c1, .slice p2 ws.length c2] 28) := ⟨_, rfl⟩
  rw [← hwa] at B1 T1
  generalize ifTwo ps ws a b (pickT ps a b true) = R at *
  generalize twoB ps ws a b = ok at *
  go_enter Try.func81, Try.ntmps81
  go_wp2_with fail
  rw [← hwa]
  clear hwa x0 x1
  refine (C.out _ B1.out).mono ?_
  rintro e w1 ⟨u, rfl, o1, b1⟩
  have FIN : Hid (NewIntsB R ok w (.returned (.tuple #[u, .bool ok])) w1) := Lib.hid ⟨_, rfl, o1.low B1.out.size, B1.out.trans (b1.mono B1.out.size)⟩
  clear o1 b1
  go_wp2_with fail
  go_ret2
  exact FIN.out
end Go.Proofs.Ytagljebfbacdhaa
