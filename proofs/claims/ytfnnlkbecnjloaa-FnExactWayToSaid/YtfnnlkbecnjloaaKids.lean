/- Children, in the program and in the model. -/
import Derived.Test.YtfnnlkbecnjloaaNode
import Derived.Deep.QuietTactic
import Derived.BigQuiet
namespace Go.Proofs.Ytfnnlkbecnjloaa
open Go.RowKit
set_option linter.unusedVariables false
/-- What a function returns that asks for a node. -/
def ifNode (ps ws : List Int) (x : Int) (zs : List Int) : List Int := if nodeB ps ws x = true then zs else []
theorem nodeB_true {ps ws : List Int} {x : Int} (h : nodeB ps ws x = true) : Good ps ws ∧ 0 ≤ x ∧ x < (ps.length : Int) := by
  unfold nodeB at h
  rw [Bool.and_eq_true, decide_eq_true_eq] at h
  exact ⟨Good.of h.1, h.2.1, h.2.2⟩
theorem kidsF_good {ps ws : List Int} (g : Good ps ws) (x : Nat) : kidsF ps x ps.length = kidsT ps x := by
  rw [kidsT_eq]
  unfold kidsF
  refine nodesW_congr fun y hy => ?_
  rw [Bool.eq_iff_iff, Bool.and_eq_true, decide_eq_true_eq, beq_iff_eq]
  constructor
  · exact fun h => h.2
  · intro h
    have := g.kid_gt hy h
    exact ⟨by omega, h⟩
theorem kidsN (ps ws : List Int) (v : Value) (x : Int) (w : World) (gd : Good ps ws) (h0 : 0 ≤ x) (h1 : x < (ps.length : Int)) (h : TreeV w w.heap.size v ps ws) :
    Calls Try.prog 73 #[v, .int .i64 x] w (NewInts (kidsT ps x) w) := by
  obtain ⟨k, rfl⟩ : ∃ k : Nat, x = (k : Int) := ⟨x.toNat, by omega⟩
  rw [← kidsF_good gd]
  have := gd.n24
  exact kidsS ps ws v k w (by omega) (by omega) h
set_option maxHeartbeats 2000000 in
theorem kidsM (ps ws : List Int) (v : Value) (x : Int) (w : World) (h : TreeV w w.heap.size v ps ws) :
    Calls Try.prog 43 #[v, .int .i64 x] w (NewIntsB (ifNode ps ws x (kidsT ps x)) (nodeB ps ws x) w) := by
  have G := Lib.hid (fun w' (hb : Below w.heap.size w w') => nodeS ps ws v x w' (h.boxed hb))
  have EN := Lib.hid (fun (gd : Good ps ws) (h0 : 0 ≤ x) (h1 : x < (ps.length : Int)) w' (hb : Below w.heap.size w w') => kidsN ps ws v x w' gd h0 h1 (h.boxed hb))
  obtain ⟨p1, c1, p2, c2, rfl⟩ : ∃ p1 c1 p2 c2, v = .agg #[.slice p1 ps.length c1, .slice p2 ws.length c2] := by
    obtain ⟨v1, v2, e, ⟨p1, c1, e1, _⟩, ⟨p2, c2, e2, _⟩⟩ := h
    exact ⟨p1, c1, p2, c2, by rw [e, e1, e2]⟩
  clear h
  have B1 := (Below.refl w.heap.size w).alloc (Nat.le_refl _) (.cells #[.slice p1 ps.length c1, .slice p2 ws.length c2] 44)
  have T1 := Lib.hid (show TBox (w.alloc (.cells #[.slice p1 ps.length c1, .slice p2 ws.length c2] 44)) w.heap.size (.slice p1 ps.length c1) (.slice p2 ws.length c2) from alloc_heap w _)
  cases hg : nodeB ps ws x
  · rw [hg] at G
    have IG := Lib.hid (show ifNode ps ws x (kidsT ps x) = [] from by unfold ifNode; rw [hg]; rfl)
    clear hg EN
    go_enter Try.func43, Try.ntmps43
    go_wp2_with fail
    refine (G.out _ B1).mono ?_
    rintro e w1 ⟨rfl, b1⟩
    have HB1 := Lib.hid (B1.trans (b1.mono B1.size))
    clear b1
    go_wp2_with fail
    go_ret2
    rw [IG.out]
    exact newInts_empty HB1.out
  · rw [hg] at G
    have IG := Lib.hid (show ifNode ps ws x (kidsT ps x) = kidsT ps x from by unfold ifNode; rw [hg]; rfl)
    obtain ⟨gd, h0, h1⟩ := nodeB_true hg
    have E2 := Lib.hid (EN.out gd h0 h1)
    clear hg gd EN
    go_enter Try.func43, Try.ntmps43
    go_wp2_with fail
    refine (G.out _ B1).mono ?_
    rintro e w1 ⟨rfl, b1⟩
    have HB1 := Lib.hid (B1.trans (b1.mono B1.size))
    have HT1 := Lib.hid (T1.out.below b1 (by simp))
    clear b1
    obtain ⟨x0, x1⟩ := HT1.out.cells
    go_wp2_with fail
    refine (E2.out _ HB1.out).mono ?_
    rintro e w2 ⟨u, rfl, o2, b2⟩
    have FIN := Lib.hid (newInts_back HB1.out o2 b2)
    clear o2 b2
    go_wp2_with fail
    go_ret2
    rw [IG.out]
    exact FIN.out
theorem kids_len (ps ws : List Int) (x : Int) : (ifNode ps ws x (kidsT ps x)).length ≤ 1048576 := by
  unfold ifNode
  split
  · rename_i h
    have := (nodeB_true h).1.n24
    have := nodesW_len (fun y => ps.getD y 0 == x) ps.length
    rw [kidsT_eq]; omega
  · simp
/-- The test of ChildrenOf. -/
theorem kidsPred (ps ws : List Int) (v1 v2 : Value) (x : Int) (w W0 : World) (B C : Nat) (hbox : TBox W0 B v1 v2) (hx : W0.cell? ⟨C, 0, none⟩ = some (.int .i64 x)) (h : TreeV w w.heap.size (.agg #[v1, v2]) ps ws) (h0 : Below w.heap.size w W0) :
    PredI 75 #[.pointer (some ⟨B, 0, none⟩), .pointer (some ⟨C, 0, none⟩)] (fun y => ps.getD y 0 == x) ps.length W0 := by
  intro W y hy hb
  dsimp only
  obtain ⟨x0, x1⟩ := (hbox.below hb hbox.lt).cells
  have xc : W.cell? ⟨C, 0, none⟩ = some (.int .i64 x) := by rw [hb.cell (p := ⟨C, 0, none⟩) (World.block_lt_of_cell? _ _ hx)]; exact hx
  obtain ⟨_, _, e, ⟨p1, c1, e1, _, m1, _, i1⟩, _⟩ := h
  obtain ⟨rfl, _⟩ : v1 = .slice p1 ps.length c1 ∧ v2 = v2 := by simp at e; exact ⟨by rw [e.1, e1], rfl⟩
  clear e e1
  obtain ⟨b, off, rfl, hb2, hc⟩ := IntsAt.get i1 hy
  have hb3 := h0.trans (hb.mono h0.size)
  have hcw : W.cell? ⟨b, off + y, none⟩ = some (.int .i64 (ps.getD y 0)) := by rw [hb3.cell (p := ⟨b, off + y, none⟩) hb2, hc]
  have i0 : (0 : Int) ≤ (y : Int) := by omega
  have i1' : (y : Int) < (ps.length : Int) := by omega
  unfold maxLen at m1
  generalize ps.getD y 0 = z at *
  clear hc i1 hb hb3 h0 hbox hx hy
  show Calls _ _ #[.int .i64 y, .pointer (some ⟨B, 0, none⟩), .pointer (some ⟨C, 0, none⟩)] _ _
  go_enter Try.func75, Try.ntmps75
  go_wp2
  go_quiet (fail)
  go_wp2
  go_ret
  exact ⟨rfl, below_drewN (Below.refl _ _) _⟩
set_option maxHeartbeats 2000000 in
theorem kidsI (ps ws : List Int) (v : Value) (x : Int) (w : World) (h : TreeV w w.heap.size v ps ws) :
    Calls Try.prog 44 #[v, .int .i64 x] w (NewIntsB (ifNode ps ws x (kidsT ps x)) (nodeB ps ws x) w) := by
  have TV := Lib.hid h
  have G := Lib.hid (fun w' (hb : Below w.heap.size w w') => isNodeI ps ws v x w' (h.boxed hb))
  obtain ⟨v1, v2, rfl, ⟨p1, c1, rfl, l1, m1, _, i1⟩, ⟨p2, c2, rfl, l2, m2, _, i2⟩⟩ := h
  clear i1 i2
  have B1 := ((Below.refl w.heap.size w).alloc (Nat.le_refl _) (.cells #[.slice p1 ps.length c1, .slice p2 ws.length c2] 44)).alloc (by simp) (.cells #[.int .i64 x] 3)
  have K0 := alloc_two w (.cells #[.slice p1 ps.length c1, .slice p2 ws.length c2] 44) (.cells #[.int .i64 x] 3)
  have T1 := Lib.hid (show TBox ((w.alloc (.cells #[.slice p1 ps.length c1, .slice p2 ws.length c2] 44)).alloc (.cells #[.int .i64 x] 3)) w.heap.size (.slice p1 ps.length c1) (.slice p2 ws.length c2) from K0.1)
  have X1 := Lib.hid (cell_of_heap (o := 0) K0.2 rfl).1
  clear K0
  have hmf : ∀ (fn : Fn) (first cap : Array Value) (w : World), (Instr.makeFunc fn first cap).run Try.prog w = .ok (.func fn first cap) w := fun _ _ _ _ => rfl
  cases hg : nodeB ps ws x
  · rw [hg] at G
    have IG := Lib.hid (show ifNode ps ws x (kidsT ps x) = [] from by unfold ifNode; rw [hg]; rfl)
    clear hg
    go_enter Try.func44, Try.ntmps44
    go_wp2_with fail
    refine (G.out _ B1).mono ?_
    rintro e w1 ⟨rfl, b1⟩
    have HB1 := Lib.hid (B1.trans (b1.mono B1.size))
    clear b1
    go_wp2_with fail
    go_ret2
    rw [IG.out]
    exact newInts_empty HB1.out
  · rw [hg] at G
    have IG := Lib.hid (show ifNode ps ws x (kidsT ps x) = kidsT ps x from by unfold ifNode; rw [hg]; rfl)
    have hn := (nodeB_true hg).1.n24
    clear hg
    go_enter Try.func44, Try.ntmps44
    go_wp2_with fail
    refine (G.out _ B1).mono ?_
    rintro e w1 ⟨rfl, b1⟩
    have HB1 := Lib.hid (B1.trans (b1.mono B1.size))
    have HT1 := Lib.hid (T1.out.below b1 (by simp; omega))
    have HX1 := Lib.hid ((b1.cell (p := ⟨w.heap.size + 1, 0, none⟩) (by simp)).trans X1.out)
    clear b1
    obtain ⟨x0, x1⟩ := HT1.out.cells
    have C := Lib.hid (nodesI ps ws _ 75 #[.pointer (some ⟨w.heap.size, 0, none⟩), .pointer (some ⟨w.heap.size + 1, 0, none⟩)] _ w1 (enters_of Try.func75 (by kernel_rfl) rfl) (by omega) (TV.out.boxed HB1.out) (kidsPred ps ws _ _ x w w1 w.heap.size (w.heap.size + 1) HT1.out HX1.out TV.out HB1.out))
    rw [← kidsT_eq] at C
    go_wp2_with fail
    refine C.out.mono ?_
    rintro e w2 ⟨u, rfl, o2, b2⟩
    have FIN := Lib.hid (newInts_back HB1.out o2 b2)
    clear o2 b2
    go_wp2_with fail
    go_ret2
    rw [IG.out]
    exact FIN.out
end Go.Proofs.Ytfnnlkbecnjloaa
