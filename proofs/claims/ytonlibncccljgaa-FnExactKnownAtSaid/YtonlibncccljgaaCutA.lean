/- CutAt in the program. -/
import Derived.Test.YtonlibncccljgaaCutI
namespace Go.Proofs.Ytonlibncccljgaa
open Go.RowKit
set_option linter.unusedVariables false
theorem newInts_empty' {w w1 : World} (hb : Below w.heap.size w w1) {g : Nat} (hg : g = w1.heap.size) : NewIntsB [] false w (.returned (.tuple #[.slice (some ⟨g, 0, none⟩) 0 0, .bool false])) (w1.alloc (.cells #[] 3)) := by
  subst hg; exact newInts_empty hb
set_option maxHeartbeats 2000000 in
theorem cutI (ps ws : List Int) (v : Value) (d : Int) (w : World) (h : TreeV w w.heap.size v ps ws) :
    Calls Try.prog 90 #[v, .int .i64 d] w (NewIntsB (ifCut ps ws d (cutT ps ws d)) (okCut ps ws d) w) := by
  have TV := Lib.hid h
  have G := Lib.hid (fun w' (hb : Below w.heap.size w w') => depthsI ps ws v w' (h.boxed hb))
  obtain ⟨v1, v2, rfl, ⟨p1, c1, rfl, l1, m1, _, i1⟩, ⟨p2, c2, rfl, l2, m2, _, i2⟩⟩ := h
  clear i1 i2
  have B1 := ((Below.refl w.heap.size w).alloc (Nat.le_refl _) (.cells #[.slice p1 ps.length c1, .slice p2 ws.length c2] 29)).alloc (by simp) (.cells #[.int .i64 d] 3)
  have K0 := alloc_two w (.cells #[.slice p1 ps.length c1, .slice p2 ws.length c2] 29) (.cells #[.int .i64 d] 3)
  have T1 := Lib.hid (show TBox ((w.alloc (.cells #[.slice p1 ps.length c1, .slice p2 ws.length c2] 29)).alloc (.cells #[.int .i64 d] 3)) w.heap.size (.slice p1 ps.length c1) (.slice p2 ws.length c2) from K0.1)
  have X1 := Lib.hid (cell_of_heap (o := 0) K0.2 rfl).1
  clear K0
  have hmf : ∀ (fn : Fn) (first cap : Array Value) (w : World), (Instr.makeFunc fn first cap).run Try.prog w = .ok (.func fn first cap) w := fun _ _ _ _ => rfl
  cases hg : goodT ps ws
  · rw [hg] at G
    have IG := Lib.hid (show ifCut ps ws d (cutT ps ws d) = [] from by unfold ifCut; rw [hg]; simp)
    have OK := Lib.hid (show okCut ps ws d = false from by unfold okCut; rw [hg]; rfl)
    clear hg
    go_enter Try.func90, Try.ntmps90
    go_wp2_with fail
    refine (G.out _ B1).mono ?_
    rintro e w1 ⟨u, rfl, o1, b1⟩
    obtain ⟨pu, cu, rfl, _⟩ := o1.intsV
    have HB1 := Lib.hid (B1.trans (b1.mono B1.size))
    have HB2 := Lib.hid (HB1.out.alloc HB1.out.size (.cells #[.slice pu (ifGood ps ws (depthsT ps)).length cu] 22))
    clear b1 o1
    go_wp2_with fail
    go_ret2
    rw [IG.out, OK.out]
    exact newInts_empty' HB2.out (by simp)
  · rw [hg] at G
    have IGG := Lib.hid (show ifGood ps ws (depthsT ps) = depthsT ps from by unfold ifGood; rw [hg]; rfl)
    rw [IGG.out] at G
    have gd := Good.of hg
    have hn := gd.n24
    have hn1 := gd.n1
    have GD := Lib.hid gd
    have hDL := depthsT_len ps
    by_cases hd : 0 ≤ d
    · have IG := Lib.hid (show ifCut ps ws d (cutT ps ws d) = cutT ps ws d from by unfold ifCut; rw [if_pos ⟨hg, hd⟩])
      have OK := Lib.hid (show okCut ps ws d = true from by unfold okCut; rw [hg, decide_eq_true hd]; rfl)
      have nd : ¬ d < 0 := by omega
      clear hg gd hd IGG
      go_enter Try.func90, Try.ntmps90
      go_wp2_with fail
      refine (G.out _ B1).mono ?_
      rintro e w1 ⟨u, rfl, o1, b1⟩
      obtain ⟨g, cap, rfl, hg1, hg2⟩ := o1.shape (by omega)
      rw [hDL]
      have R1 := Lib.hid (fun j (hj : j < ps.length) => o1.cellGet (j := j) (by omega))
      have HB1 := Lib.hid (B1.trans (b1.mono B1.size))
      have HT1 := Lib.hid (T1.out.below b1 (by simp; omega))
      have HX1 := Lib.hid ((b1.cell (p := ⟨w.heap.size + 1, 0, none⟩) (by simp)).trans X1.out)
      have sz1 := b1.size
      simp at sz1
      have sz2 : w.heap.size + 1 < w1.heap.size := by omega
      have sz3 : w.heap.size < w1.heap.size := by omega
      clear b1 o1
      obtain ⟨w2, hw2⟩ : ∃ w2, w2 = w1.alloc (.cells #[.slice (some ⟨g, 0, none⟩) ps.length cap] 22) := ⟨_, rfl⟩
      have HB2 : Hid (Below w.heap.size w w2) := Lib.hid (by rw [hw2]; exact HB1.out.alloc HB1.out.size _)
      have HT2 : Hid (TBox w2 w.heap.size (.slice p1 ps.length c1) (.slice p2 ws.length c2)) := Lib.hid (by rw [hw2]; exact HT1.out.alloc _)
      have HX2 : Hid (w2.cell? ⟨w.heap.size + 1, 0, none⟩ = some (.int .i64 d)) := Lib.hid (by rw [hw2, World.cell?_alloc_lt _ _ _ (by show w.heap.size + 1 < _; omega)]; exact HX1.out)
      have HR2 : Hid (w2.cell? ⟨w1.heap.size, 0, none⟩ = some (.slice (some ⟨g, 0, none⟩) ps.length cap)) := Lib.hid (by rw [hw2]; exact (cell_of_heap (o := 0) (alloc_heap w1 _) rfl).1)
      have R2 : Hid (∀ j, j < ps.length → w2.cell? ⟨g, j, none⟩ = some (.int .i64 ((depthsT ps).getD j 0))) := Lib.hid (fun j hj => by rw [hw2, World.cell?_alloc_lt _ _ _ (by exact hg2)]; exact R1.out j hj)
      obtain ⟨x0, x1⟩ := HT2.out.cells
      have xd := HX2.out
      have C := Lib.hid (nodesI ps ws _ 129 #[.pointer (some ⟨w1.heap.size, 0, none⟩), .pointer (some ⟨w.heap.size + 1, 0, none⟩), .pointer (some ⟨w.heap.size, 0, none⟩)] _ w2 (enters_of Try.func129 (by kernel_rfl) rfl) (by omega) (TV.out.boxed HB2.out) (cutPred ps ws _ _ d w w2 w.heap.size (w.heap.size + 1) w1.heap.size g cap GD.out HT2.out HX2.out HR2.out R2.out TV.out HB2.out))
      have HX1' := HX1.out
      obtain ⟨y0, y1⟩ := HT1.out.cells
      go_wp2_with fail
      rw [← hw2]
      clear hw2
      refine C.out.mono ?_
      rintro e w3 ⟨u, rfl, o2, b2⟩
      have FIN := Lib.hid (newInts_back HB2.out o2 b2)
      clear o2 b2
      go_wp2_with fail
      go_ret2
      rw [IG.out, OK.out]
      exact FIN.out
    · have IG := Lib.hid (show ifCut ps ws d (cutT ps ws d) = [] from by unfold ifCut; rw [if_neg (fun h => hd h.2)])
      have OK := Lib.hid (show okCut ps ws d = false from by unfold okCut; rw [hg, decide_eq_false hd]; rfl)
      have nd : d < 0 := by omega
      clear hg gd hd IGG
      go_enter Try.func90, Try.ntmps90
      go_wp2_with fail
      refine (G.out _ B1).mono ?_
      rintro e w1 ⟨u, rfl, o1, b1⟩
      obtain ⟨pu, cu, rfl, _⟩ := o1.intsV
      have HB1 := Lib.hid (B1.trans (b1.mono B1.size))
      have HX1 := (b1.cell (p := ⟨w.heap.size + 1, 0, none⟩) (by simp)).trans X1.out
      have HB2 := Lib.hid (HB1.out.alloc HB1.out.size (.cells #[.slice pu ps.length cu] 22))
      have sz1 := b1.size
      simp at sz1
      have sz2 : w.heap.size + 1 < w1.heap.size := by omega
      have sz3 : w.heap.size < w1.heap.size := by omega
      clear b1 o1
      go_wp2_with fail
      go_ret2
      rw [IG.out, OK.out]
      exact newInts_empty' HB2.out (by simp)
end Go.Proofs.Ytonlibncccljgaa
