/- The cut at a time, in the program and in the model. -/
import Derived.Test.YtonlibncccljgaaCutS
import Derived.Deep.RegionHeld3
import Derived.Deep.QuietTactic
import Derived.BigQuiet
namespace Go.Proofs.Ytonlibncccljgaa
open Go.RowKit
set_option linter.unusedVariables false
theorem below_trans' {V a b : World} (h : Below V.heap.size V a) (k : Below a.heap.size a b) : Below V.heap.size V b := h.trans (k.mono h.size)
theorem undrew' {a b : World} (h : Below a.drew.heap.size a.drew b) : Below a.heap.size a b := ⟨h.os, h.tape, h.output, h.size, h.block⟩
def ifCut (ps ws : List Int) (d : Int) (zs : List Int) : List Int := if goodT ps ws = true ∧ 0 ≤ d then zs else []
def okCut (ps ws : List Int) (d : Int) : Bool := goodT ps ws && decide (0 ≤ d)
theorem cut_len (ps ws : List Int) (d : Int) : (ifCut ps ws d (cutT ps ws d)).length ≤ 1048576 := by
  unfold ifCut
  split
  · rename_i h
    have := (Good.of h.1).n24
    have := nodesW_len (cutB ps ws d) ps.length
    unfold cutT; omega
  · simp
/-- The test of CutAt: a node, behind it the addresses of the depths, of the time and of the tree. -/
theorem cutPred (ps ws : List Int) (v1 v2 : Value) (d : Int) (w W0 : World) (B C D g cap : Nat) (gd : Good ps ws) (hbox : TBox W0 B v1 v2) (hd : W0.cell? ⟨C, 0, none⟩ = some (.int .i64 d))
    (hr : W0.cell? ⟨D, 0, none⟩ = some (.slice (some ⟨g, 0, none⟩) ps.length cap)) (hrow : ∀ j, j < ps.length → W0.cell? ⟨g, j, none⟩ = some (.int .i64 ((depthsT ps).getD j 0)))
    (h : TreeV w w.heap.size (.agg #[v1, v2]) ps ws) (h0 : Below w.heap.size w W0) :
    PredI 129 #[.pointer (some ⟨D, 0, none⟩), .pointer (some ⟨C, 0, none⟩), .pointer (some ⟨B, 0, none⟩)] (cutB ps ws d) ps.length W0 := by
  intro W y hy hb
  have hn := gd.n24
  have KE : ∀ w', Below W.heap.size W w' → w'.cell? ⟨B, 0, none⟩ = some v1 ∧ w'.cell? ⟨B, 1, none⟩ = some v2 ∧ w'.cell? ⟨C, 0, none⟩ = some (.int .i64 d) ∧ w'.cell? ⟨D, 0, none⟩ = some (.slice (some ⟨g, 0, none⟩) ps.length cap) ∧ w'.cell? ⟨g, y, none⟩ = some (.int .i64 ((depthsT ps).getD y 0)) ∧ Below W.heap.size W w' := fun w' hw => by
    have hb2 := below_trans' hb hw
    refine ⟨(hbox.below hb2 hbox.lt).cells.1, (hbox.below hb2 hbox.lt).cells.2, ?_, ?_, ?_, hw⟩
    · rw [hb2.cell (p := ⟨C, 0, none⟩) (World.block_lt_of_cell? _ _ hd)]; exact hd
    · rw [hb2.cell (p := ⟨D, 0, none⟩) (World.block_lt_of_cell? _ _ hr)]; exact hr
    · rw [hb2.cell (p := ⟨g, y, none⟩) (World.block_lt_of_cell? _ _ (hrow y hy))]; exact hrow y hy
  have IE := Lib.hid (fun w' (hw : Below W.heap.size W w') => isEndI ps ws _ y w' (by rw [gd.nw]; exact hy) (h.boxed (h0.trans ((below_trans' hb hw).mono h0.size))))
  obtain ⟨p1, c1, p2, c2, rfl, rfl⟩ : ∃ p1 c1 p2 c2, v1 = .slice p1 ps.length c1 ∧ v2 = .slice p2 ws.length c2 := by
    obtain ⟨_, _, e, ⟨p1, c1, e1, _⟩, ⟨p2, c2, e2, _⟩⟩ := h
    simp at e
    exact ⟨p1, c1, p2, c2, by rw [e.1, e1], by rw [e.2, e2]⟩
  have K := Lib.hid KE
  obtain ⟨x0, x1, xd, xr, xy, _⟩ := KE W (Below.refl _ _)
  have CB := Lib.hid (show cutB ps ws d y = ((depthsT ps).getD y 0 == d || (decide ((depthsT ps).getD y 0 < d) && decide (0 < ws.getD y 0))) from rfl)
  have i0 : (0 : Int) ≤ (y : Int) := by omega
  have i1' : (y : Int) < (ps.length : Int) := by omega
  have hm : ps.length ≤ 24 := hn
  generalize (depthsT ps).getD y 0 = dy at *
  generalize decide (0 < ws.getD y 0) = eb at *
  clear KE h h0 hb hbox hd hr hrow gd hy
  show Calls _ _ #[.int .i64 y, .pointer (some ⟨D, 0, none⟩), .pointer (some ⟨C, 0, none⟩), .pointer (some ⟨B, 0, none⟩)] _ _
  by_cases h1 : dy = d
  · have E := Lib.hid (show cutB ps ws d y = true by rw [CB.out]; simp [h1])
    have hb1 : (dy == d) = true := by simpa using h1
    clear CB h1
    go_enter Try.func129, Try.ntmps129
    go_wp2_with fail
    go_quiet (fail)
    go_wp2_with fail
    go_ret
    exact ⟨ret_b E.out, below_drewN (Below.refl _ _) _⟩
  · have hb1 : (dy == d) = false := by simpa using h1
    by_cases h2 : dy < d
    · have E := Lib.hid (show cutB ps ws d y = eb by rw [CB.out, hb1, decide_eq_true h2]; simp)
      have hb2 : decide (dy < d) = true := decide_eq_true h2
      clear CB h1
      go_enter Try.func129, Try.ntmps129
      go_wp2_with fail
      go_region_held3 (fun w' => w'.cell? ⟨B, 0, none⟩ = some (.slice p1 ps.length c1) ∧ w'.cell? ⟨B, 1, none⟩ = some (.slice p2 ws.length c2) ∧ w'.cell? ⟨C, 0, none⟩ = some (.int .i64 d) ∧ w'.cell? ⟨D, 0, none⟩ = some (.slice (some ⟨g, 0, none⟩) ps.length cap) ∧ w'.cell? ⟨g, y, none⟩ = some (.int .i64 dy) ∧ Below W.heap.size W w')
        (first | exact K.out _ (below_drew (Below.refl _ _)) | exact K.out _ hb9)
        (first | (go_at_call 85; (with_reducible refine (IE.out _ (below_drew (Below.refl _ _))).mono ?_); rintro e w9 ⟨rfl, b9⟩; (have hb9 := undrew' b9); clear b9))
      all_goals
        go_wp2_with fail
        go_ret
        exact ⟨ret_b E.out, by assumption⟩
    · have E := Lib.hid (show cutB ps ws d y = false by rw [CB.out, hb1, decide_eq_false h2]; simp)
      have hb2 : decide (dy < d) = false := decide_eq_false h2
      clear CB h1
      go_enter Try.func129, Try.ntmps129
      go_wp2_with fail
      go_quiet (fail)
      go_wp2_with fail
      go_ret
      exact ⟨ret_b E.out, below_drewN (Below.refl _ _) _⟩
end Go.Proofs.Ytonlibncccljgaa
