/- Rows of pairs of a call's own, told as the ints of their cells; what the laws' helpers do with them. -/
import Derived.Test.YtmidlabgmmejbabPairE
import Derived.Test.YtmidlabgmmejbabRow
import Derived.Test.YtmidlabgmmejbabLawX
import Derived.Deep.LoopGhost
import Derived.Deep.RegionHeld3
namespace Go.Proofs.Ytmidlabgmmejbab
open Go.RowKit
set_option linter.unusedVariables false
structure OwnQ (w : World) (lo hi : Nat) (v : Value) (n : Nat) (fs : List Int) : Prop where
  len : fs.length = n * 2
  row : w.ownsRow lo 57 2 v n (fs.map (.int .i64))
  lt : ∀ q, v.ownBlock = some q → q < hi
  room : hi ≤ w.heap.size
  in64 : ∀ z ∈ fs, InI64 z
theorem OwnQ.below {w w' : World} {lo hi n : Nat} {v : Value} {fs : List Int} (h : OwnQ w lo hi v n fs) (hb : Below hi w w') : OwnQ w' lo hi v n fs := by
  refine ⟨h.len, ?_, h.lt, Nat.le_trans h.room hb.size, h.in64⟩
  refine ⟨h.row.1, ?_⟩
  rcases h.row.2 with hn | ⟨g, cap, cur, h1, hb', hg, rest⟩
  · exact .inl hn
  · refine .inr ⟨g, cap, cur, h1, hb', ?_, rest⟩
    rw [hb.block g (h.lt g (by rw [h1]; simp [Value.ownBlock]))]; exact hg
theorem OwnQ.alt {w w' : World} {lo hi lo' hi' n : Nat} {v : Value} {fs : List Int} (h : OwnQ w lo hi v n fs) (ha : Alt lo' hi' w w') (hd : hi ≤ lo' ∨ hi' ≤ lo) : OwnQ w' lo hi v n fs := by
  refine ⟨h.len, ?_, h.lt, Nat.le_trans h.room ha.size, h.in64⟩
  refine ⟨h.row.1, ?_⟩
  rcases h.row.2 with hn | ⟨g, cap, cur, h1, hb', hg, rest⟩
  · exact .inl hn
  · refine .inr ⟨g, cap, cur, h1, hb', ?_, rest⟩
    have hl := h.lt g (by rw [h1]; simp [Value.ownBlock])
    rw [ha.block g (by have := h.room; omega) (by omega)]; exact hg
theorem OwnQ.wide {w : World} {lo hi hi' n : Nat} {v : Value} {fs : List Int} (h : OwnQ w lo hi v n fs) (h2 : hi ≤ hi') (hr : hi' ≤ w.heap.size) : OwnQ w lo hi' v n fs :=
  ⟨h.len, h.row, fun q hq => by have := h.lt q hq; omega, hr, h.in64⟩
theorem OwnQ.low {w : World} {lo lo' hi n : Nat} {v : Value} {fs : List Int} (h : OwnQ w lo hi v n fs) (h1 : lo' ≤ lo) : OwnQ w lo' hi v n fs := by
  refine ⟨h.len, ⟨h.row.1, ?_⟩, h.lt, h.room, h.in64⟩
  rcases h.row.2 with hn | ⟨g, cap, cur, h2, hb', rest⟩
  · exact .inl hn
  · exact .inr ⟨g, cap, cur, h2, by omega, rest⟩
theorem OwnQ.shape {w : World} {lo hi n : Nat} {v : Value} {fs : List Int} (h : OwnQ w lo hi v n fs) (hp : 0 < n) : ∃ g cap, v = .slice (some ⟨g, 0, none⟩) n cap ∧ lo ≤ g ∧ g < hi := by
  rcases h.row.2 with ⟨_, h2⟩ | ⟨g, cap, cur, h1, hb, _⟩
  · omega
  · exact ⟨g, cap, h1, hb, h.lt g (by rw [h1]; simp [Value.ownBlock])⟩
theorem OwnQ.cellGet {w : World} {lo hi g cap n : Nat} {fs : List Int} (h : OwnQ w lo hi (.slice (some ⟨g, 0, none⟩) n cap) n fs) {j : Nat} (hj : j < n * 2) : w.cell? ⟨g, j, none⟩ = some (.int .i64 (fs.getD j 0)) := by
  have hl := h.len
  rw [h.row.cellAt j hj, List.getElem?_map, List.getD_eq_getElem?_getD, List.getElem?_eq_getElem (by omega)]; rfl
/-- As a slice that is read alone. -/
theorem OwnQ.opened {w : World} {lo hi n : Nat} {v : Value} {fs : List Int} (h : OwnQ w lo hi v n fs) : ∃ p cap, v = .slice p n cap ∧ ∀ i, i < n * 2 → ∃ g, p = some ⟨g, 0, none⟩ ∧ lo ≤ g ∧ g < hi ∧ w.cell? ⟨g, i, none⟩ = some (.int .i64 (fs.getD i 0)) := by
  rcases h.row.2 with ⟨h1, h2⟩ | ⟨g, cap, cur, h1, hb, _⟩
  · subst h2; exact ⟨none, 0, h1, fun i hi => by omega⟩
  · subst h1
    exact ⟨_, cap, rfl, fun i hi => ⟨g, rfl, hb, h.lt g (by simp [Value.ownBlock]), h.cellGet hi⟩⟩
theorem hb_nextQ {wa a b : World} (h : Hid (Below wa.heap.size wa a)) (k : Below a.heap.size a b) : Hid (Below wa.heap.size wa b) := Lib.hid (h.out.trans (k.mono h.out.size))
theorem marksI_get (k n i : Nat) (h : i < n) : (marksI k n).getD i 0 = ((k + i : Nat) : Int) := by
  rw [List.getD_eq_getElem?_getD, List.getElem?_eq_getElem (by rw [marksI_len]; exact h), marksI_at k n i h]; rfl
end Go.Proofs.Ytmidlabgmmejbab
