/- LeastCaps in the model. -/
import Derived.Test.YtagljebfbacdhaaCapM
namespace Go.Proofs.Ytagljebfbacdhaa
open Go.RowKit
set_option linter.unusedVariables false
set_option maxRecDepth 100000 in
set_option maxHeartbeats 4000000 in
theorem leaM (ps ws zs : List Int) (v u : Value) (w : World) (hn1 : zs.length ≤ 1048576) (h : TreeV w w.heap.size v ps ws) (hu : IntsV w w.heap.size u zs) :
    Calls Try.prog 47 #[v, u] w (NewIntsB (ifLea ps ws zs (capT ps (ownT (sumsT ps ws) zs ps.length))) (procB ps ws zs) w) := by
  have PC := Lib.hid (fun w' (hb : Below w.heap.size w w') => pays4 ps ws zs v u w' hn1 (h.boxed hb) ((hu.below hb).more hb.size))
  have LV := Lib.hid (fun (pr : Proc ps ws zs) w' (hb : Below w.heap.size w w') => caps4S ps ws zs v u w' pr (h.boxed hb) ((hu.below hb).more hb.size))
  obtain ⟨p1, c1, p2, c2, rfl⟩ := h.shape
  obtain ⟨q, d, rfl, _⟩ := hu
  clear h
  have B1 := (Below.refl w.heap.size w).alloc (Nat.le_refl _) (.cells #[.slice p1 ps.length c1, .slice p2 ws.length c2] 28)
  have T1 := Lib.hid (show TBox (w.alloc (.cells #[.slice p1 ps.length c1, .slice p2 ws.length c2] 28)) w.heap.size (.slice p1 ps.length c1) (.slice p2 ws.length c2) from alloc_heap w _)
  obtain ⟨x0, x1⟩ := T1.out.cells
  obtain ⟨wa, hwa⟩ : ∃ wa, wa = w.alloc (.cells #[.slice p1 ps.length c1, .slice p2 ws.length c2] 28) := ⟨_, rfl⟩
  rw [← hwa] at B1 T1
  have HBA := Lib.hid B1
  clear B1
  cases hp : procB ps ws zs
  · rw [hp] at PC
    have IS := Lib.hid (show ifLea ps ws zs (capT ps (ownT (sumsT ps ws) zs ps.length)) = [] by unfold ifLea; rw [hp]; rfl)
    rw [IS.out]
    clear hp LV
    go_enter Try.func47, Try.ntmps47
    go_wp2_with fail
    rw [← hwa]
    clear hwa x0 x1
    refine (PC.out _ HBA.out).mono ?_
    rintro e w1 ⟨rfl, b1⟩
    have HB1 := Lib.hid (HBA.out.trans (b1.mono HBA.out.size))
    clear b1
    go_wp2_with fail
    go_ret2
    exact newInts_empty HB1.out
  · rw [hp] at PC
    have IS := Lib.hid (show ifLea ps ws zs (capT ps (ownT (sumsT ps ws) zs ps.length)) = capT ps (ownT (sumsT ps ws) zs ps.length) by unfold ifLea; rw [hp]; rfl)
    have LV2 := Lib.hid (LV.out (procB_iff.1 hp))
    rw [IS.out]
    clear hp LV
    generalize capT ps (ownT (sumsT ps ws) zs ps.length) = R at *
    go_enter Try.func47, Try.ntmps47
    go_wp2_with fail
    rw [← hwa]
    clear hwa x0 x1
    refine (PC.out _ HBA.out).mono ?_
    rintro e w1 ⟨rfl, b1⟩
    have HB1 := Lib.hid (HBA.out.trans (b1.mono HBA.out.size))
    obtain ⟨y0, y1⟩ := (T1.out.below b1 T1.out.lt).cells
    clear b1
    go_wp2_with fail
    refine (LV2.out _ HB1.out).mono ?_
    rintro e w2 ⟨u2, rfl, o2, b2⟩
    have FIN := Lib.hid (newInts_back HB1.out o2 b2)
    clear o2 b2
    go_wp2_with fail
    go_ret2
    exact FIN.out
end Go.Proofs.Ytagljebfbacdhaa
