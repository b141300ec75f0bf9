/- Whether there is a node; children. -/
import Derived.Test.YtmidlabgmmejbabSumS
namespace Go.Proofs.Ytmidlabgmmejbab
open Go.RowKit
set_option linter.unusedVariables false
/-- Whether x is a node of a tree. -/
def nodeB (ps ws : List Int) (x : Int) : Bool := goodT ps ws && decide (0 ≤ x ∧ x < (ps.length : Int))
set_option maxHeartbeats 2000000 in
theorem isNodeI (ps ws : List Int) (v : Value) (x : Int) (w : World) (h : TreeV w w.heap.size v ps ws) :
    Calls Try.prog 170 #[v, .int .i64 x] w (Gives (.bool (nodeB ps ws x)) w) := by
  have G := Lib.hid (fun w' (hb : Below w.heap.size w w') => isTreeI ps ws v w' (h.boxed hb))
  obtain ⟨v1, v2, rfl, ⟨p1, c1, rfl, l1, m1, _⟩, ⟨p2, c2, rfl, l2, m2, _⟩⟩ := h
  unfold maxLen at m1 m2
  have B1 := (Below.refl w.heap.size w).alloc (Nat.le_refl _) (.cells #[.slice p1 ps.length c1, .slice p2 ws.length c2] 37)
  have T1 := Lib.hid (show TBox (w.alloc (.cells #[.slice p1 ps.length c1, .slice p2 ws.length c2] 37)) w.heap.size (.slice p1 ps.length c1) (.slice p2 ws.length c2) from alloc_heap w _)
  cases hg : goodT ps ws
  · rw [hg] at G
    have N := Lib.hid (show nodeB ps ws x = false by unfold nodeB; rw [hg]; rfl)
    clear hg
    go_enter Try.func170, Try.ntmps170
    go_wp2_with fail
    refine (G.out _ B1).mono ?_
    rintro e w1 ⟨rfl, b1⟩
    have HB1 := Lib.hid (B1.trans (b1.mono B1.size))
    clear b1
    go_wp2_with fail
    go_ret
    exact ⟨ret_b N.out, HB1.out⟩
  · rw [hg] at G
    have N := Lib.hid (show nodeB ps ws x = decide (0 ≤ x ∧ x < (ps.length : Int)) by unfold nodeB; rw [hg]; rfl)
    clear hg
    by_cases h0 : 0 ≤ x
    · by_cases h1 : x < (ps.length : Int)
      · have N2 := Lib.hid (N.out.trans (decide_eq_true ⟨h0, h1⟩))
        go_enter Try.func170, Try.ntmps170
        go_wp2_with fail
        refine (G.out _ B1).mono ?_
        rintro e w1 ⟨rfl, b1⟩
        have HB1 := Lib.hid (B1.trans (b1.mono B1.size))
        obtain ⟨x0, x1⟩ := (T1.out.below b1 (by simp)).cells
        clear b1
        go_wp2_with fail
        go_ret
        exact ⟨ret_b N2.out, HB1.out⟩
      · have N2 := Lib.hid (N.out.trans (decide_eq_false (fun h => h1 h.2)))
        have t1 : decide (x < (ps.length : Int)) = false := decide_eq_false h1
        go_enter Try.func170, Try.ntmps170
        go_wp2_with fail
        refine (G.out _ B1).mono ?_
        rintro e w1 ⟨rfl, b1⟩
        have HB1 := Lib.hid (B1.trans (b1.mono B1.size))
        obtain ⟨x0, x1⟩ := (T1.out.below b1 (by simp)).cells
        clear b1
        go_wp2_with fail
        go_ret
        exact ⟨ret_b N2.out, HB1.out⟩
    · have N2 := Lib.hid (N.out.trans (decide_eq_false (fun h => h0 h.1)))
      go_enter Try.func170, Try.ntmps170
      go_wp2_with fail
      refine (G.out _ B1).mono ?_
      rintro e w1 ⟨rfl, b1⟩
      have HB1 := Lib.hid (B1.trans (b1.mono B1.size))
      obtain ⟨x0, x1⟩ := (T1.out.below b1 (by simp)).cells
      clear b1
      go_wp2_with fail
      go_ret
      exact ⟨ret_b N2.out, HB1.out⟩
end Go.Proofs.Ytmidlabgmmejbab
