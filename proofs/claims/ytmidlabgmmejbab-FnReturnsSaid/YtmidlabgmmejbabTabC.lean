/- Tables of counts in memory: kept by what happens elsewhere, changed at a cell. -/
import Derived.Test.YtmidlabgmmejbabBlk
import Derived.Test.YtmidlabgmmejbabRetP
namespace Go.Proofs.Ytmidlabgmmejbab
open Go.RowKit
set_option linter.unusedVariables false
/-- A table of counts: its list in block go, its rows in blocks gs i, all from lo on and below hi, all different. -/
structure TabC (w : World) (lo hi go : Nat) (gs : Nat → Nat) (R C : Nat) (F : Nat → Nat → Nat) : Prop where
  room : lo ≤ go ∧ go < hi ∧ hi ≤ w.heap.size
  rows : ∀ i, i < R → lo ≤ gs i ∧ gs i < hi ∧ gs i ≠ go
  ne : ∀ i j, i < R → j < R → i ≠ j → gs i ≠ gs j
  out : ∀ i, i < R → w.cell? ⟨go, i, none⟩ = some (.slice (some ⟨gs i, 0, none⟩) C C)
  cell : ∀ i k, i < R → k < C → w.cell? ⟨gs i, k, none⟩ = some (.int .i64 (F i k : Nat))
  thaw : ∀ i k, i < R → k < C → w.frozen? ⟨gs i, k, none⟩ = false
theorem TabC.congr {w : World} {lo hi go R C : Nat} {gs : Nat → Nat} {F G : Nat → Nat → Nat} (h : TabC w lo hi go gs R C F) (e : ∀ i k, i < R → k < C → F i k = G i k) : TabC w lo hi go gs R C G :=
  ⟨h.room, h.rows, h.ne, h.out, fun i k hi hk => by rw [h.cell i k hi hk, e i k hi hk], h.thaw⟩
theorem TabC.keep {w w' : World} {lo hi go R C : Nat} {gs : Nat → Nat} {F : Nat → Nat → Nat} (h : TabC w lo hi go gs R C F) {n : Nat} (hn : hi ≤ n) (hb : Below n w w') (hs : w.heap.size ≤ w'.heap.size) : TabC w' lo hi go gs R C F := by
  have r := h.room
  refine ⟨⟨r.1, r.2.1, by omega⟩, h.rows, h.ne, fun i hi => ?_, fun i k hi hk => ?_, fun i k hi hk => ?_⟩
  · rw [World.cell?_of_block (a := ⟨go, i, none⟩) (hb.block _ (Nat.lt_of_lt_of_le r.2.1 hn))]; exact h.out i hi
  · rw [World.cell?_of_block (a := ⟨gs i, k, none⟩) (hb.block _ (Nat.lt_of_lt_of_le (h.rows i hi).2.1 hn))]; exact h.cell i k hi hk
  · rw [World.frozen?_of_block (a := ⟨gs i, k, none⟩) (hb.block _ (Nat.lt_of_lt_of_le (h.rows i hi).2.1 hn))]; exact h.thaw i k hi hk
theorem TabC.bump {w : World} {lo hi go R C : Nat} {gs : Nat → Nat} {F : Nat → Nat → Nat} (h : TabC w lo hi go gs R C F) {t k x : Nat} (ht : t < R) (hk : k < C) :
    TabC (w.setCell ⟨gs t, k, none⟩ (.int .i64 (F t k + x : Nat))) lo hi go gs R C (bumpR F t k x) := by
  have r := h.room
  refine ⟨⟨r.1, r.2.1, by simpa [World.setCell] using r.2.2⟩, h.rows, h.ne, fun i hi => ?_, fun i q hi hq => ?_, fun i q hi hq => ?_⟩
  · rw [World.cell?_setCell_other _ _ _ _ (by intro e; injection e with e1; exact (h.rows t ht).2.2 e1)]; exact h.out i hi
  · unfold bumpR
    by_cases e : i = t ∧ q = k
    · obtain ⟨rfl, rfl⟩ := e
      rw [if_pos ⟨rfl, rfl⟩]
      exact World.cell?_setCell_same _ _ _ (h.cell i q hi hq)
    · rw [if_neg e, World.cell?_setCell_other _ _ _ _ (by
        intro e2; injection e2 with e1 e3
        by_cases h3 : i = t
        · exact e ⟨h3, by omega⟩
        · first | exact h.ne _ _ hi ht h3 e1 | exact h.ne _ _ hi ht h3 e1.symm)]
      exact h.cell i q hi hq
  · rw [World.frozen?_setCell]; exact h.thaw i q hi hq
theorem NewTab.tabC {R C : Nat} {w w' : World} {e : Ending} (h : NewTab R C w e w') : ∃ go co gs, e = .returned (.slice (some ⟨go, 0, none⟩) R co) ∧ TabC w' w.heap.size w'.heap.size go gs R C (fun _ _ => 0) ∧ Below w.heap.size w w' := by
  obtain ⟨go, co, gs, e1, h1, h2, h3, h4, h5, h6⟩ := h
  exact ⟨go, co, gs, e1, ⟨⟨h1, h2, Nat.le_refl _⟩, fun i hi => ⟨(h5.lo i hi).1, (h5.lo i hi).2, h3 i hi⟩, h5.ne, h4, fun i k hi hk => h5.cell i k hi hk, h5.thaw⟩, h6⟩
end Go.Proofs.Ytmidlabgmmejbab
