/- The depths of the nodes, in the program and in the model. -/
import Derived.Test.YtagljebfbacdhaaEnds
import Derived.Test.YtagljebfbacdhaaDepthP
namespace Go.Proofs.Ytagljebfbacdhaa
open Go.RowKit
set_option linter.unusedVariables false
theorem OwnV.norm {w : World} {lo hi g cap n : Nat} {zs : List Int} (h : OwnV w lo hi (.slice (some ⟨g, 0, none⟩) n cap) zs) : n = zs.length := by
  rcases h.row.2 with ⟨h1, _⟩ | ⟨g', cap', cur, h1, _⟩
  · injection h1 with h1 _ _; cases h1
  · injection h1
theorem OwnV.frozenGet {w : World} {lo hi g cap n : Nat} {zs : List Int} (h : OwnV w lo hi (.slice (some ⟨g, 0, none⟩) n cap) zs) (j : Nat) : w.frozen? ⟨g, j, none⟩ = false := by
  obtain rfl := h.norm
  exact h.row.frozenAt j
theorem OwnV.cellGet {w : World} {lo hi g cap n : Nat} {zs : List Int} (h : OwnV w lo hi (.slice (some ⟨g, 0, none⟩) n cap) zs) {j : Nat} (hj : j < zs.length) : w.cell? ⟨g, j, none⟩ = some (.int .i64 (zs.getD j 0)) := by
  obtain rfl := h.norm
  rw [h.row.cellAt j (by omega), List.getElem?_map, List.getElem?_eq_getElem hj, List.getD_eq_getElem?_getD, List.getElem?_eq_getElem hj]; rfl
theorem OwnV.setAt {w : World} {lo hi g cap n : Nat} {zs : List Int} (h : OwnV w lo hi (.slice (some ⟨g, 0, none⟩) n cap) zs) (j : Nat) {x : Int} (hx : InI64 x) : OwnV (w.setCell ⟨g, j, none⟩ (.int .i64 x)) lo hi (.slice (some ⟨g, 0, none⟩) n cap) (zs.set j x) := by
  obtain rfl := h.norm
  refine ⟨?_, h.lt, by simpa [World.setCell] using h.room, ?_⟩
  · have := (h.row.stored j (.int .i64 x)).1
    rw [List.length_set, List.map_set]; exact this
  · intro z hz
    rcases List.mem_or_eq_of_mem_set hz with h' | h'
    · exact h.in64 z h'
    · subst h'; exact hx
theorem OwnV.shape {w : World} {lo hi : Nat} {v : Value} {zs : List Int} (h : OwnV w lo hi v zs) (hp : 0 < zs.length) : ∃ g cap, v = .slice (some ⟨g, 0, none⟩) zs.length cap ∧ lo ≤ g ∧ g < hi := by
  rcases h.row.2 with ⟨_, h2⟩ | ⟨g, cap, cur, h1, hb, _⟩
  · omega
  · exact ⟨g, cap, h1, hb, h.lt g (by rw [h1]; simp [Value.ownBlock])⟩
/-- A row of zeros, just made. -/
theorem OwnV.made {w1 : World} {lo g n : Nat} (h : w1.ownsRow lo 3 1 (.slice (some ⟨g, 0, none⟩) n n) n (List.replicate n (.int .i64 0))) : OwnV w1 lo w1.heap.size (.slice (some ⟨g, 0, none⟩) n n) (List.replicate n 0) := by
  refine ⟨?_, fun q hq => (h.lt q hq).2, Nat.le_refl _, ?_⟩
  · rw [List.length_replicate, List.map_replicate]; exact h
  · intro z hz; have := List.eq_of_mem_replicate hz; subst this; unfold InI64; omega
end Go.Proofs.Ytagljebfbacdhaa
