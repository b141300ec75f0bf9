/- LeastCaps in the program. -/
import Derived.Test.YtagljebfbacdhaaCapI
namespace Go.Proofs.Ytagljebfbacdhaa
open Go.RowKit
set_option linter.unusedVariables false
theorem Game.parts {w : World} {B : Nat} {g : Value} {ps ws zs : List Int} (h : Game w B g ps ws zs) : ∃ p1 c1 p2 c2 p3 n3 c3 p4 c4, g = .agg #[.slice p1 ps.length c1, .slice p2 ws.length c2, .slice p3 n3 c3, .slice p4 zs.length c4] := by
  obtain ⟨v1, v2, us, u, e, h1, ⟨p3, c3, e3, _⟩, ⟨p4, c4, e4, _⟩⟩ := h
  obtain ⟨p1, c1, p2, c2, hs⟩ := h1.shape
  injection hs with hs
  injection hs with hs
  injection hs with hs1 hs
  injection hs with hs2 hs
  exact ⟨p1, c1, p2, c2, p3, _, c3, p4, c4, by rw [e, hs1, hs2, e3, e4]⟩
set_option maxRecDepth 100000 in
set_option maxHeartbeats 2000000 in
theorem leastI (ps ws zs : List Int) (g : Value) (w : World) (pr : Proc ps ws zs) (h : Game w w.heap.size g ps ws zs) :
    Calls Try.prog 62 #[g] w (NewInts (capT ps (ownT (sumsT ps ws) zs ps.length)) w) := by
  have C := Lib.hid (fun w' (hb : Below w.heap.size w w') => capsI ps ws zs 24 g w' (by omega) pr (h.boxed hb))
  obtain ⟨p1, c1, p2, c2, p3, n3, c3, p4, c4, rfl⟩ := h.parts
  have B1 := Lib.hid ((Below.refl w.heap.size w).alloc (Nat.le_refl _) (.cells #[.slice p1 ps.length c1, .slice p2 ws.length c2, .slice p3 n3 c3, .slice p4 zs.length c4] 60))
  have R1 := show GBox (w.alloc (.cells #[.slice p1 ps.length c1, .slice p2 ws.length c2, .slice p3 n3 c3, .slice p4 zs.length c4] 60)) w.heap.size _ _ _ _ from alloc_heap w _
  obtain ⟨x0, x1, x2, x3⟩ := R1.cells
  obtain ⟨wa, hwa⟩ : ∃ wa, wa = w.alloc (.cells #[.slice p1 ps.length c1, .slice p2 ws.length c2, .slice p3 n3 c3, .slice p4 zs.length c4] 60) := ⟨_, rfl⟩
  rw [← hwa] at B1
  clear R1 h
  go_enter Try.func62, Try.ntmps62
  go_wp2_with fail
  rw [← hwa]
  refine (C.out wa B1.out).mono ?_
  rintro e w1 ⟨u, rfl, o1, b1⟩
  have FIN : Hid (NewInts (capT ps (ownT (sumsT ps ws) zs ps.length)) w (.returned u) w1) := Lib.hid ⟨_, rfl, o1.low B1.out.size, B1.out.trans (b1.mono B1.out.size)⟩
  clear o1 b1
  go_wp2_with fail
  go_ret
  exact FIN.out
/-- What LeastCaps returns. -/
def ifLea (ps ws zs L : List Int) : List Int := if procB ps ws zs = true then L else []
theorem ifLea_yes {ps ws zs L : List Int} (h : procB ps ws zs = true) : ifLea ps ws zs L = L := by unfold ifLea; rw [h]; rfl
theorem ifLea_no {ps ws zs L : List Int} (h : procB ps ws zs = false) : ifLea ps ws zs L = [] := by unfold ifLea; rw [h]; rfl
theorem cap_len (ps ws zs : List Int) : (ifLea ps ws zs (capT ps (ownT (sumsT ps ws) zs ps.length))).length ≤ 1048576 := by
  unfold ifLea
  split
  · rename_i h
    have := (procB_iff.1 h).good.n24
    have e : (capT ps (ownT (sumsT ps ws) zs ps.length)).length = ps.length := capN_len (ownT_len _ _ _) 24
    omega
  · simp
set_option maxRecDepth 100000 in
set_option maxHeartbeats 4000000 in
theorem leaI (ps ws zs : List Int) (v u : Value) (w : World) (hn1 : zs.length ≤ 1048576) (h : TreeV w w.heap.size v ps ws) (hu : IntsV w w.heap.size u zs) :
    Calls Try.prog 48 #[v, u] w (NewIntsB (ifLea ps ws zs (capT ps (ownT (sumsT ps ws) zs ps.length))) (procB ps ws zs) w) := by
  have GC := Lib.hid (fun w' (hb : Below w.heap.size w w') => gameI ps ws zs v u w' hn1 (h.boxed hb) ((hu.below hb).more hb.size))
  obtain ⟨p1, c1, p2, c2, rfl⟩ := h.shape
  obtain ⟨q, d, rfl, _⟩ := hu
  clear h
  have B1 := (Below.refl w.heap.size w).alloc (Nat.le_refl _) (.cells #[.slice p1 ps.length c1, .slice p2 ws.length c2] 28)
  have T1 := Lib.hid (show TBox (w.alloc (.cells #[.slice p1 ps.length c1, .slice p2 ws.length c2] 28)) w.heap.size (.slice p1 ps.length c1) (.slice p2 ws.length c2) from alloc_heap w _)
  obtain ⟨x0, x1⟩ := T1.out.cells
  obtain ⟨wa, hwa⟩ : ∃ wa, wa = w.alloc (.cells #[.slice p1 ps.length c1, .slice p2 ws.length c2] 28) := ⟨_, rfl⟩
  rw [← hwa] at B1 T1
  have HBA := Lib.hid B1
  clear B1
  have GC2 := Lib.hid (GC.out wa HBA.out)
  cases hp : procB ps ws zs
  · have IS := Lib.hid (ifLea_no (L := capT ps (ownT (sumsT ps ws) zs ps.length)) hp)
    rw [IS.out]
    have G3 : Hid (Calls Try.prog 61 #[.agg #[.slice p1 ps.length c1, .slice p2 ws.length c2], .slice q zs.length d] wa (Gives (.tuple #[noGame, .bool false]) wa)) := Lib.hid (GC2.out.mono (fun e w1 hh => by
      obtain ⟨hb, ⟨_, h2⟩ | ⟨h1, _⟩⟩ := hh
      · exact ⟨h2, hb⟩
      · rw [hp] at h1; cases h1))
    clear hp GC GC2
    unfold noGame at G3
    go_enter Try.func48, Try.ntmps48
    go_wp2_with fail
    rw [← hwa]
    clear hwa x0 x1
    refine G3.out.mono ?_
    rintro e w1 ⟨rfl, b1⟩
    have HB1 := HBA.out.trans (b1.mono HBA.out.size)
    have HB2 := Lib.hid (HB1.alloc HB1.size (.cells #[.slice none 0 0, .slice none 0 0, .slice none 0 0, .slice none 0 0] 60))
    clear b1 HB1
    go_wp2_with fail
    go_ret2
    exact newInts_emptyG HB2.out (by simp)
  · have IS := Lib.hid (ifLea_yes (L := capT ps (ownT (sumsT ps ws) zs ps.length)) hp)
    rw [IS.out]
    have PR := Lib.hid (procB_iff.1 hp)
    have G3 : Hid (Calls Try.prog 61 #[.agg #[.slice p1 ps.length c1, .slice p2 ws.length c2], .slice q zs.length d] wa (fun e w' => ∃ g, e = .returned (.tuple #[g, .bool true]) ∧ Game w' w'.heap.size g ps ws zs ∧ Below wa.heap.size wa w')) := Lib.hid (GC2.out.mono (fun e w1 hh => by
      obtain ⟨hb, ⟨h1, _⟩ | ⟨_, g, h2, h3⟩⟩ := hh
      · rw [hp] at h1; cases h1
      · exact ⟨g, h2, h3, hb⟩))
    have LE := Lib.hid (fun g w1 (hg : Game w1 w1.heap.size g ps ws zs) w2 (hb : Below w1.heap.size w1 w2) => leastI ps ws zs g w2 PR.out (hg.boxed hb))
    clear hp GC GC2
    obtain ⟨R, hR⟩ : ∃ R, R = capT ps (ownT (sumsT ps ws) zs ps.length) := ⟨_, rfl⟩
    rw [← hR] at LE ⊢
    clear hR IS
    go_enter Try.func48, Try.ntmps48
    go_wp2_with fail
    rw [← hwa]
    clear hwa x0 x1
    refine G3.out.mono ?_
    rintro e w1 ⟨g, rfl, hg, b1⟩
    have HB1 := HBA.out.trans (b1.mono HBA.out.size)
    obtain ⟨P1, C1, P2, C2, P3, N3, C3, P4, C4, rfl⟩ := hg.parts
    have HB2 := Lib.hid (HB1.alloc HB1.size (.cells #[.slice P1 ps.length C1, .slice P2 ws.length C2, .slice P3 N3 C3, .slice P4 zs.length C4] 60))
    have L2 := Lib.hid (LE.out _ w1 hg _ ((Below.refl w1.heap.size w1).alloc (Nat.le_refl _) (.cells #[.slice P1 ps.length C1, .slice P2 ws.length C2, .slice P3 N3 C3, .slice P4 zs.length C4] 60)))
    have R1 := show GBox (w1.alloc (.cells #[.slice P1 ps.length C1, .slice P2 ws.length C2, .slice P3 N3 C3, .slice P4 zs.length C4] 60)) w1.heap.size _ _ _ _ from alloc_heap w1 _
    obtain ⟨y0, y1, y2, y3⟩ := R1.cells
    clear b1 HB1 hg R1
    obtain ⟨wb, hwb⟩ : ∃ wb, wb = w1.alloc (.cells #[.slice P1 ps.length C1, .slice P2 ws.length C2, .slice P3 N3 C3, .slice P4 zs.length C4] 60) := ⟨_, rfl⟩
    rw [← hwb] at HB2 L2
    go_wp2_with fail
    rw [← hwb]
    clear hwb y0 y1 y2 y3
    refine L2.out.mono ?_
    rintro e w2 ⟨u2, rfl, o2, b2⟩
    have FIN := Lib.hid (newInts_back HB2.out o2 b2)
    clear o2 b2
    go_wp2_with fail
    go_ret2
    exact FIN.out
end Go.Proofs.Ytagljebfbacdhaa
