/- DepthsOf in the model. -/
import Derived.Test.YtfnnlkbecnjloaaSumS
namespace Go.Proofs.Ytfnnlkbecnjloaa
open Go.RowKit
set_option linter.unusedVariables false
set_option maxHeartbeats 2000000 in
theorem depthsM (ps ws : List Int) (v : Value) (w : World) (h : TreeV w w.heap.size v ps ws) :
    Calls Try.prog 45 #[v] w (NewIntsB (ifGood ps ws (depthsT ps)) (goodT ps ws) w) := by
  have G := Lib.hid (fun w' (hb : Below w.heap.size w w') => goodS ps ws v w' (h.boxed hb))
  have EN := Lib.hid (fun (gd : Good ps ws) w' (hb : Below w.heap.size w w') => depthsS ps ws v w' gd (h.boxed hb))
  obtain ⟨p1, c1, p2, c2, rfl⟩ : ∃ p1 c1 p2 c2, v = .agg #[.slice p1 ps.length c1, .slice p2 ws.length c2] := by
    obtain ⟨v1, v2, e, ⟨p1, c1, e1, _⟩, ⟨p2, c2, e2, _⟩⟩ := h
    exact ⟨p1, c1, p2, c2, by rw [e, e1, e2]⟩
  clear h
  have B1 := (Below.refl w.heap.size w).alloc (Nat.le_refl _) (.cells #[.slice p1 ps.length c1, .slice p2 ws.length c2] 44)
  have T1 := Lib.hid (show TBox (w.alloc (.cells #[.slice p1 ps.length c1, .slice p2 ws.length c2] 44)) w.heap.size (.slice p1 ps.length c1) (.slice p2 ws.length c2) from alloc_heap w _)
  cases hg : goodT ps ws
  · rw [hg] at G
    have IG := Lib.hid (show ifGood ps ws (depthsT ps) = [] from by unfold ifGood; rw [hg]; rfl)
    clear hg
    go_enter Try.func45, Try.ntmps45
    go_wp2_with fail
    refine (G.out _ B1).mono ?_
    rintro e w1 ⟨rfl, b1⟩
    have HB1 := Lib.hid (B1.trans (b1.mono B1.size))
    clear b1
    go_wp2_with fail
    go_ret2
    rw [IG.out]
    exact newInts_empty HB1.out
  · rw [hg] at G
    have IG := Lib.hid (show ifGood ps ws (depthsT ps) = depthsT ps from by unfold ifGood; rw [hg]; rfl)
    have E2 := Lib.hid (EN.out (Good.of hg))
    clear hg EN
    go_enter Try.func45, Try.ntmps45
    go_wp2_with fail
    refine (G.out _ B1).mono ?_
    rintro e w1 ⟨rfl, b1⟩
    have HB1 := Lib.hid (B1.trans (b1.mono B1.size))
    have HT1 := Lib.hid (T1.out.below b1 (by simp))
    clear b1
    obtain ⟨x0, x1⟩ := HT1.out.cells
    go_wp2_with fail
    refine (E2.out _ HB1.out).mono ?_
    rintro e w2 ⟨u, rfl, o2, b2⟩
    have FIN := Lib.hid (newInts_back HB1.out o2 b2)
    clear o2 b2
    go_wp2_with fail
    go_ret2
    rw [IG.out]
    exact FIN.out
theorem depths_len (ps ws : List Int) : (ifGood ps ws (depthsT ps)).length ≤ 1048576 := by
  unfold ifGood
  split
  · rename_i h
    have := (Good.of h).n24
    rw [depthsT_len]; omega
  · simp
end Go.Proofs.Ytfnnlkbecnjloaa
