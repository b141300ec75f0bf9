/- LeastCaps in the program. -/
import Derived.Test.YtfpckfameebdnaaCapI
namespace Go.Proofs.Ytfpckfameebdnaa
open Go.RowKit
set_option linter.unusedVariables false
theorem Game.parts {w : World} {B : Nat} {g : Value} {ps ws zs : List Int} (h : Game w B g ps ws zs) : ∃ p1 c1 p2 c2 p3 n3 c3 p4 c4, g = .agg #[.slice p1 ps.length c1, .slice p2 ws.length c2, .slice p3 n3 c3, .slice p4 zs.length c4] := by
  obtain ⟨v1, v2, us, u, e, h1, ⟨p3, c3, e3, _⟩, ⟨p4, c4, e4, _⟩⟩ := h
  obtain ⟨p1, c1, p2, c2, hs⟩ := h1.shape
  injection hs with hs
  injection hs with hs
  injection hs with hs1 hs
  injection hs with hs2 hs
  exact ⟨p1, c1, p2, c2, p3, _, c3, p4, c4, by rw [e, hs1, hs2, e3, e4]⟩
set_option maxRecDepth 100000 in
set_option maxHeartbeats 2000000 in
theorem leastI (ps ws zs : List Int) (g : Value) (w : World) (pr : Proc ps ws zs) (h : Game w w.heap.size g ps ws zs) :
    Calls Try.prog 81 #[g] w (NewInts (capT ps (ownT (sumsT ps ws) zs ps.length)) w) := by
  have C := Lib.hid (fun w' (hb : Below w.heap.size w w') => capsI ps ws zs 24 g w' (by omega) pr (h.boxed hb))
  obtain ⟨p1, c1, p2, c2, p3, n3, c3, p4, c4, rfl⟩ := h.parts
  have B1 := Lib.hid ((Below.refl w.heap.size w).alloc (Nat.le_refl _) (.cells #[.slice p1 ps.length c1, .slice p2 ws.length c2, .slice p3 n3 c3, .slice p4 zs.length c4] 73))
  have R1 := show GBox (w.alloc (.cells #[.slice p1 ps.length c1, .slice p2 ws.length c2, .slice p3 n3 c3, .slice p4 zs.length c4] 73)) w.heap.size _ _ _ _ from alloc_heap w _
  obtain ⟨x0, x1, x2, x3⟩ := R1.cells
  obtain ⟨wa, hwa⟩ : ∃ wa, wa = w.alloc (.cells #[.slice p1 ps.length c1, .slice p2 ws.length c2, .slice p3 n3 c3, .slice p4 zs.length c4] 73) := ⟨_, rfl⟩
  rw [← hwa] at B1
  clear R1 h
  go_enter Try.func81, Try.ntmps81
  go_wp2_with fail
  rw [← hwa]
  refine (C.out wa B1.out).mono ?_
  rintro e w1 ⟨u, rfl, o1, b1⟩
  have FIN : Hid (NewInts (capT ps (ownT (sumsT ps ws) zs ps.length)) w (.returned u) w1) := Lib.hid ⟨_, rfl, o1.low B1.out.size, B1.out.trans (b1.mono B1.out.size)⟩
  clear o1 b1
  go_wp2_with fail
  go_ret
  exact FIN.out
/-- What LeastCaps returns. -/
def ifLea (ps ws zs L : List Int) : List Int := if procB ps ws zs = true then L else []
theorem ifLea_yes {ps ws zs L : List Int} (h : procB ps ws zs = true) : ifLea ps ws zs L = L := by unfold ifLea; rw [h]; rfl
theorem ifLea_no {ps ws zs L : List Int} (h : procB ps ws zs = false) : ifLea ps ws zs L = [] := by unfold ifLea; rw [h]; rfl
theorem cap_len (ps ws zs : List Int) : (ifLea ps ws zs (capT ps (ownT (sumsT ps ws) zs ps.length))).length ≤ 1048576 := by
  unfold ifLea
  split
  · rename_i h
    have := (procB_iff.1 h).good.n24
    have e : (capT ps (ownT (sumsT ps ws) zs ps.length)).length = ps.length := capN_len (ownT_len _ _ _) 24
    omega
  · simp
end Go.Proofs.Ytfpckfameebdnaa
