/- IsRule in the model. -/
import Derived.Test.YtagljebfbacdhaaRulM
import Derived.Test.YtagljebfbacdhaaGoodS
namespace Go.Proofs.Ytagljebfbacdhaa
open Go.RowKit
set_option linter.unusedVariables false
set_option maxRecDepth 100000 in
set_option maxHeartbeats 2000000 in
theorem isRuleM (ps ws ss : List Int) (v u : Value) (w : World) (hl : ss.length ≤ 1048576) (h : TreeV w w.heap.size v ps ws) (hu : IntsV w w.heap.size u ss) :
    Calls Try.prog 16 #[v, u] w (Gives (stopV ps ws ss) w) := by
  have G := Lib.hid (fun w' (hb : Below w.heap.size w w') => goodS ps ws v w' (h.boxed hb))
  have SS := Lib.hid (fun (gd : Good ps ws) w' (hb : Below w.heap.size w w') => rule4S ps ws ss v u w' gd hl (h.boxed hb) ((hu.below hb).more hb.size))
  obtain ⟨p1, c1, p2, c2, rfl⟩ := h.shape
  obtain ⟨q, cq, rfl, _⟩ := hu
  clear h
  have B1 := Lib.hid ((Below.refl w.heap.size w).alloc (Nat.le_refl _) (.cells #[.slice p1 ps.length c1, .slice p2 ws.length c2] 28))
  have T1 := Lib.hid (show TBox (w.alloc (.cells #[.slice p1 ps.length c1, .slice p2 ws.length c2] 28)) w.heap.size (.slice p1 ps.length c1) (.slice p2 ws.length c2) from alloc_heap w _)
  obtain ⟨wa, hwa⟩ : ∃ wa, wa = w.alloc (.cells #[.slice p1 ps.length c1, .slice p2 ws.length c2] 28) := ⟨_, rfl⟩
  rw [← hwa] at B1 T1
  obtain ⟨x0, x1⟩ := T1.out.cells
  have D : Hid (stopV ps ws ss = .tuple #[.bool (stopB ps ws ss), .bool (goodT ps ws)]) := Lib.hid rfl
  cases hg : goodT ps ws
  · have R : Hid (stopV ps ws ss = .tuple #[.bool false, .bool false]) := Lib.hid (by rw [D.out, hg]; unfold stopB; rw [hg]; rfl)
    rw [hg] at G
    clear hg D
    go_enter Try.func16, Try.ntmps16
    go_wp2_with fail
    rw [← hwa]
    clear hwa
    refine (G.out _ B1.out).mono ?_
    rintro e w1 ⟨rfl, b1⟩
    have HB1 := Lib.hid (B1.out.trans (b1.mono B1.out.size))
    obtain ⟨y0, y1⟩ := (T1.out.below b1 T1.out.lt).cells
    clear b1
    go_wp2_with fail
    go_ret2
    rw [R.out]
    exact ⟨rfl, HB1.out⟩
  · have S2 := Lib.hid (SS.out (Good.of hg))
    rw [hg] at G D
    clear hg SS
    generalize stopB ps ws ss = bb at *
    go_enter Try.func16, Try.ntmps16
    go_wp2_with fail
    rw [← hwa]
    clear hwa
    refine (G.out _ B1.out).mono ?_
    rintro e w1 ⟨rfl, b1⟩
    have HB1 := Lib.hid (B1.out.trans (b1.mono B1.out.size))
    obtain ⟨y0, y1⟩ := (T1.out.below b1 T1.out.lt).cells
    clear b1
    go_wp2_with fail
    refine (S2.out _ HB1.out).mono ?_
    rintro e w2 ⟨rfl, b2⟩
    have HB2 := Lib.hid (HB1.out.trans (b2.mono HB1.out.size))
    clear b2
    go_wp2_with fail
    go_ret2
    rw [D.out]
    exact ⟨rfl, HB2.out⟩
end Go.Proofs.Ytagljebfbacdhaa
