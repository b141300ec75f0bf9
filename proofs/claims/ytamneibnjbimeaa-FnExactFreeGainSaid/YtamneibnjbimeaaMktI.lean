/- Markets, in the program. -/
import Derived.Test.YtamneibnjbimeaaMktH
import Derived.Test.YtamneibnjbimeaaMktP
import Derived.Test.YtamneibnjbimeaaWlkI
namespace Go.Proofs.Ytamneibnjbimeaa
open Go.RowKit
set_option linter.unusedVariables false
set_option maxHeartbeats 2000000 in
theorem outPPred (cs : List Int) (w : World) :
    PredZ 42 #[] outP cs w := by
  intro W z hz hb
  have F := Lib.hid (fun w => fromI z 0 20 w)
  have D : Hid (outP z = !decide (0 ≤ z ∧ z ≤ 20)) := Lib.hid rfl
  clear hb hz
  show Calls _ _ #[.int .i64 z] _ _
  generalize decide (0 ≤ z ∧ z ≤ 20) = bb at *
  go_enter Try.func42, Try.ntmps42
  go_wp2_with fail
  refine (F.out _).mono ?_
  rintro e w1 ⟨rfl, rfl⟩
  go_wp2_with fail
  go_ret
  exact ⟨by rw [D.out]; rfl, Below.refl _ _⟩
set_option maxHeartbeats 2000000 in
theorem isMktI (ps ws cs : List Int) (v : Value) (w : World) (hn : cs.length ≤ 1048576) (h : MktV w w.heap.size v ps ws cs) :
    Calls Try.prog 15 #[v] w (Gives (.bool (goodM ps ws cs)) w) := by
  obtain ⟨p1, c1, p2, c2, p3, c3, rfl⟩ := h.shape
  have G := Lib.hid (fun w' (hb : Below w.heap.size w w') => isTreeI ps ws _ w' (h.tree.1.boxed hb))
  have CV := Lib.hid (fun w' (hb : Below w.heap.size w w') => containsI cs _ 42 #[] outP w' (enters_of Try.func42 (by kernel_rfl) rfl) hn ((h.tree.2.below hb).more hb.size) (outPPred cs w'))
  have hmf : ∀ (fn : Fn) (first cap : Array Value) (w : World), (Instr.makeFunc fn first cap).run Try.prog w = .ok (.func fn first cap) w := fun _ _ _ _ => rfl
  have AO := Lib.hid (any_outP cs)
  have D : Hid (goodM ps ws cs = (goodT ps ws && (decide (cs.length = ps.length) && pricesB cs))) := Lib.hid rfl
  clear h
  have B1 := (Below.refl w.heap.size w).alloc (Nat.le_refl _) (.cells #[.slice p1 ps.length c1, .slice p2 ws.length c2, .slice p3 cs.length c3] 31)
  have T1 := Lib.hid (show KBox (w.alloc (.cells #[.slice p1 ps.length c1, .slice p2 ws.length c2, .slice p3 cs.length c3] 31)) w.heap.size (.slice p1 ps.length c1) (.slice p2 ws.length c2) (.slice p3 cs.length c3) from alloc_heap w _)
  obtain ⟨wa, hwa⟩ : ∃ wa, wa = w.alloc (.cells #[.slice p1 ps.length c1, .slice p2 ws.length c2, .slice p3 cs.length c3] 31) := ⟨_, rfl⟩
  rw [← hwa] at B1 T1
  obtain ⟨x0, x1, x2⟩ := T1.out.cells
  have HBA := Lib.hid B1
  clear B1
  cases hg : goodT ps ws
  · rw [hg] at G D
    clear hg
    go_enter Try.func15, Try.ntmps15
    go_wp2_with fail
    rw [← hwa]
    clear hwa
    refine (G.out _ HBA.out).mono ?_
    rintro e w1 ⟨rfl, b1⟩
    have HB1 := Lib.hid (HBA.out.trans (b1.mono HBA.out.size))
    clear b1
    go_wp2_with fail
    go_ret
    exact ⟨ret_b (by rw [D.out]; rfl), HB1.out⟩
  · rw [hg] at G D
    clear hg
    by_cases hl : cs.length = ps.length
    · rw [decide_eq_true hl] at D
      have le1 : cs.length ≤ ps.length := by omega
      have le2 : ps.length ≤ cs.length := by omega
      have t1 : ((cs.length : Int) == (ps.length : Int)) = true := by simpa using (show (cs.length : Int) = (ps.length : Int) by omega)
      clear hl
      generalize pricesB cs = pb at *
      generalize cs.any outP = ob at *
      go_enter Try.func15, Try.ntmps15
      go_wp2_with fail
      rw [← hwa]
      clear hwa
      refine (G.out _ HBA.out).mono ?_
      rintro e w1 ⟨rfl, b1⟩
      have HB1 := Lib.hid (HBA.out.trans (b1.mono HBA.out.size))
      obtain ⟨y0, y1, y2⟩ := (T1.out.below b1 T1.out.lt).cells
      clear b1 x0 x1 x2
      go_wp2_with fail
      refine (CV.out _ HB1.out).mono ?_
      rintro e w2 ⟨rfl, b2⟩
      have HB2 := Lib.hid (HB1.out.trans (b2.mono HB1.out.size))
      clear b2
      go_wp2_with fail
      go_ret
      exact ⟨ret_b (by rw [D.out, AO.out]; simp), HB2.out⟩
    · rw [decide_eq_false hl] at D
      have t1 : ((cs.length : Int) == (ps.length : Int)) = false := by simpa using (show ¬ (cs.length : Int) = (ps.length : Int) by omega)
      clear hl
      go_enter Try.func15, Try.ntmps15
      go_wp2_with fail
      rw [← hwa]
      clear hwa
      refine (G.out _ HBA.out).mono ?_
      rintro e w1 ⟨rfl, b1⟩
      have HB1 := Lib.hid (HBA.out.trans (b1.mono HBA.out.size))
      obtain ⟨y0, y1, y2⟩ := (T1.out.below b1 T1.out.lt).cells
      clear b1 x0 x1 x2
      go_wp2_with fail
      go_ret
      exact ⟨ret_b (by rw [D.out]; rfl), HB1.out⟩
end Go.Proofs.Ytamneibnjbimeaa
