/- Two rules, in the model. -/
import Derived.Test.YtagljebfbacdhaaRulM
import Derived.Test.YtagljebfbacdhaaPickP
import Derived.Test.YtagljebfbacdhaaGoodS
namespace Go.Proofs.Ytagljebfbacdhaa
open Go.RowKit
set_option linter.unusedVariables false
set_option maxRecDepth 100000 in
set_option maxHeartbeats 2000000 in
theorem two4S (ps ws a b : List Int) (v u1 u2 : Value) (w : World) (hn1 : a.length ≤ 1048576) (hn2 : b.length ≤ 1048576) (h : TreeV w w.heap.size v ps ws) (hu : IntsV w w.heap.size u1 a) (hv : IntsV w w.heap.size u2 b) :
    Calls Try.prog 74 #[v, u1, u2] w (Gives (.bool (twoB ps ws a b)) w) := by
  have G := Lib.hid (fun w' (hb : Below w.heap.size w w') => goodS ps ws v w' (h.boxed hb))
  have SA := Lib.hid (fun (gd : Good ps ws) w' (hb : Below w.heap.size w w') => rule4S ps ws a v u1 w' gd hn1 (h.boxed hb) ((hu.below hb).more hb.size))
  have SB := Lib.hid (fun (gd : Good ps ws) w' (hb : Below w.heap.size w w') => rule4S ps ws b v u2 w' gd hn2 (h.boxed hb) ((hv.below hb).more hb.size))
  obtain ⟨p1, c1, p2, c2, rfl⟩ := h.shape
  obtain ⟨q1, d1, rfl, _⟩ := hu
  obtain ⟨q2, d2, rfl, _⟩ := hv
  clear h
  have B1 := Lib.hid ((Below.refl w.heap.size w).alloc (Nat.le_refl _) (.cells #[.slice p1 ps.length c1, .slice p2 ws.length c2] 28))
  have T1 := Lib.hid (show TBox (w.alloc (.cells #[.slice p1 ps.length c1, .slice p2 ws.length c2] 28)) w.heap.size (.slice p1 ps.length c1) (.slice p2 ws.length c2) from alloc_heap w _)
  obtain ⟨x0, x1⟩ := T1.out.cells
  obtain ⟨wa, hwa⟩ : ∃ wa, wa = w.alloc (.cells #[.slice p1 ps.length c1, .slice p2 ws.length c2] 28) := ⟨_, rfl⟩
  rw [← hwa] at B1 T1
  have D : Hid (twoB ps ws a b = (stopB ps ws a && stopB ps ws b)) := Lib.hid rfl
  cases hg : goodT ps ws
  · have R := Lib.hid (show twoB ps ws a b = false by rw [D.out, show stopB ps ws a = false by unfold stopB; rw [hg]; rfl]; rfl)
    rw [hg] at G
    rw [R.out]
    clear hg SA SB
    go_enter Try.func74, Try.ntmps74
    go_wp2_with fail
    rw [← hwa]
    clear hwa x0 x1
    refine (G.out _ B1.out).mono ?_
    rintro e w1 ⟨rfl, b1⟩
    have HB1 := Lib.hid (B1.out.trans (b1.mono B1.out.size))
    clear b1
    go_wp2_with fail
    go_ret
    exact ⟨rfl, HB1.out⟩
  · have SA2 := Lib.hid (SA.out (Good.of hg))
    have SB2 := Lib.hid (SB.out (Good.of hg))
    rw [hg] at G
    clear hg SA SB
    cases hsa : stopB ps ws a
    · have R := Lib.hid (show twoB ps ws a b = false by rw [D.out, hsa]; rfl)
      rw [hsa] at SA2
      rw [R.out]
      clear hsa
      go_enter Try.func74, Try.ntmps74
      go_wp2_with fail
      rw [← hwa]
      clear hwa x0 x1
      refine (G.out _ B1.out).mono ?_
      rintro e w1 ⟨rfl, b1⟩
      have HB1 := Lib.hid (B1.out.trans (b1.mono B1.out.size))
      obtain ⟨y0, y1⟩ := (T1.out.below b1 T1.out.lt).cells
      clear b1
      go_wp2_with fail
      refine (SA2.out _ HB1.out).mono ?_
      rintro e w2 ⟨rfl, b2⟩
      have HB2 := Lib.hid (HB1.out.trans (b2.mono HB1.out.size))
      clear b2
      go_wp2_with fail
      go_ret
      exact ⟨rfl, HB2.out⟩
    · rw [hsa] at SA2
      have R := Lib.hid (show twoB ps ws a b = stopB ps ws b by rw [D.out, hsa]; rfl)
      rw [R.out]
      clear hsa D R
      generalize stopB ps ws b = tb at *
      go_enter Try.func74, Try.ntmps74
      go_wp2_with fail
      rw [← hwa]
      clear hwa x0 x1
      refine (G.out _ B1.out).mono ?_
      rintro e w1 ⟨rfl, b1⟩
      have HB1 := Lib.hid (B1.out.trans (b1.mono B1.out.size))
      have HT1 := Lib.hid (T1.out.below b1 T1.out.lt)
      obtain ⟨y0, y1⟩ := HT1.out.cells
      clear b1
      go_wp2_with fail
      refine (SA2.out _ HB1.out).mono ?_
      rintro e w2 ⟨rfl, b2⟩
      have HB2 := Lib.hid (HB1.out.trans (b2.mono HB1.out.size))
      obtain ⟨z0, z1⟩ := (HT1.out.below b2 HT1.out.lt).cells
      clear b2 y0 y1
      go_wp2_with fail
      refine (SB2.out _ HB2.out).mono ?_
      rintro e w3 ⟨rfl, b3⟩
      have HB3 := Lib.hid (HB2.out.trans (b3.mono HB2.out.size))
      clear b3
      go_wp2_with fail
      go_ret
      exact ⟨rfl, HB3.out⟩
end Go.Proofs.Ytagljebfbacdhaa
