/- EarlierRule and LaterRule in the program. -/
import Derived.Test.YtagljebfbacdhaaPickL
namespace Go.Proofs.Ytagljebfbacdhaa
open Go.RowKit
set_option linter.unusedVariables false
set_option maxRecDepth 100000 in
set_option maxHeartbeats 2000000 in
theorem ruleIErl (ps ws a b : List Int) (v u1 u2 : Value) (w : World) (hn1 : a.length ≤ 1048576) (hn2 : b.length ≤ 1048576) (h : TreeV w w.heap.size v ps ws) (hu1 : IntsV w w.heap.size u1 a) (hu2 : IntsV w w.heap.size u2 b) :
    Calls Try.prog 40 #[v, u1, u2] w (NewIntsB (ifTwo ps ws a b (pickT ps a b false)) (twoB ps ws a b) w) := by
  have C := Lib.hid (fun w' (hb : Below w.heap.size w w') => earlyI2 ps ws a b v u1 u2 w' hn1 hn2 (h.boxed hb) ((hu1.below hb).more hb.size) ((hu2.below hb).more hb.size))
  obtain ⟨p1, c1, p2, c2, rfl⟩ := h.shape
  obtain ⟨q0, d0, rfl, _⟩ := hu1
  obtain ⟨q1, d1, rfl, _⟩ := hu2
  clear h
  have B1 := Lib.hid ((Below.refl w.heap.size w).alloc (Nat.le_refl _) (.cells #[.slice p1 ps.length c1, .slice p2 ws.length c2] 28))
  have T1 := Lib.hid (show TBox (w.alloc (.cells #[.slice p1 ps.length c1, .slice p2 ws.length c2] 28)) w.heap.size (.slice p1 ps.length c1) (.slice p2 ws.length c2) from alloc_heap w _)
  obtain ⟨x0, x1⟩ := T1.out.cells
  obtain ⟨wa, hwa⟩ : ∃ wa, wa = w.alloc (.cells #[.slice p1 ps.length c1, .slice p2 ws.length c2] 28) := ⟨_, rfl⟩
  rw [← hwa] at B1 T1
  obtain ⟨R, hR⟩ : ∃ R, R = (ifTwo ps ws a b (pickT ps a b false)) := ⟨_, rfl⟩
  obtain ⟨ok, hok⟩ : ∃ ok, ok = (twoB ps ws a b) := ⟨_, rfl⟩
  rw [← hR, ← hok] at C ⊢
  clear hR hok
  go_enter Try.func40, Try.ntmps40
  go_wp2_with fail
  rw [← hwa]
  clear hwa x0 x1
  refine (C.out _ B1.out).mono ?_
  rintro e w1 ⟨u, rfl, o1, b1⟩
  have FIN : Hid (NewIntsB R ok w (.returned (.tuple #[u, .bool ok])) w1) := Lib.hid ⟨_, rfl, o1.low B1.out.size, B1.out.trans (b1.mono B1.out.size)⟩
  clear o1 b1
  go_wp2_with fail
  go_ret2
  exact FIN.out
set_option maxRecDepth 100000 in
set_option maxHeartbeats 2000000 in
theorem ruleILat (ps ws a b : List Int) (v u1 u2 : Value) (w : World) (hn1 : a.length ≤ 1048576) (hn2 : b.length ≤ 1048576) (h : TreeV w w.heap.size v ps ws) (hu1 : IntsV w w.heap.size u1 a) (hu2 : IntsV w w.heap.size u2 b) :
    Calls Try.prog 42 #[v, u1, u2] w (NewIntsB (ifTwo ps ws a b (pickT ps a b true)) (twoB ps ws a b) w) := by
  have C := Lib.hid (fun w' (hb : Below w.heap.size w w') => lateI2 ps ws a b v u1 u2 w' hn1 hn2 (h.boxed hb) ((hu1.below hb).more hb.size) ((hu2.below hb).more hb.size))
  obtain ⟨p1, c1, p2, c2, rfl⟩ := h.shape
  obtain ⟨q0, d0, rfl, _⟩ := hu1
  obtain ⟨q1, d1, rfl, _⟩ := hu2
  clear h
  have B1 := Lib.hid ((Below.refl w.heap.size w).alloc (Nat.le_refl _) (.cells #[.slice p1 ps.length c1, .slice p2 ws.length c2] 28))
  have T1 := Lib.hid (show TBox (w.alloc (.cells #[.slice p1 ps.length c1, .slice p2 ws.length c2] 28)) w.heap.size (.slice p1 ps.length c1) (.slice p2 ws.length c2) from alloc_heap w _)
  obtain ⟨x0, x1⟩ := T1.out.cells
  obtain ⟨wa, hwa⟩ : ∃ wa, wa = w.alloc (.cells #[.slice p1 ps.length c1, .slice p2 ws.length c2] 28) := ⟨_, rfl⟩
  rw [← hwa] at B1 T1
  obtain ⟨R, hR⟩ : ∃ R, R = (ifTwo ps ws a b (pickT ps a b true)) := ⟨_, rfl⟩
  obtain ⟨ok, hok⟩ : ∃ ok, ok = (twoB ps ws a b) := ⟨_, rfl⟩
  rw [← hR, ← hok] at C ⊢
  clear hR hok
  go_enter Try.func42, Try.ntmps42
  go_wp2_with fail
  rw [← hwa]
  clear hwa x0 x1
  refine (C.out _ B1.out).mono ?_
  rintro e w1 ⟨u, rfl, o1, b1⟩
  have FIN : Hid (NewIntsB R ok w (.returned (.tuple #[u, .bool ok])) w1) := Lib.hid ⟨_, rfl, o1.low B1.out.size, B1.out.trans (b1.mono B1.out.size)⟩
  clear o1 b1
  go_wp2_with fail
  go_ret2
  exact FIN.out
end Go.Proofs.Ytagljebfbacdhaa
