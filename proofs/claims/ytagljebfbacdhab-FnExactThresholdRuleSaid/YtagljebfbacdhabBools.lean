/- Rows of bools of a call's own. -/
import Derived.Test.YtagljebfbacdhabRow
namespace Go.Proofs.Ytagljebfbacdhab
open Go.RowKit
set_option linter.unusedVariables false
def bolL (p : Nat → Bool) (n : Nat) : List Value := (List.range n).map fun x => Value.bool (p x)
theorem bolL_len (p : Nat → Bool) (n : Nat) : (bolL p n).length = n := by simp [bolL]
theorem bolL_succ (p : Nat → Bool) (n : Nat) : bolL p (n + 1) = bolL p n ++ [Value.bool (p n)] := by unfold bolL; rw [List.range_succ, List.map_append]; rfl
theorem bolL_at (p : Nat → Bool) {n j : Nat} (h : j < n) : (bolL p n)[j]? = some (Value.bool (p j)) := by unfold bolL; rw [List.getElem?_map, List.getElem?_range h]; rfl
theorem boolInfo : (Try.prog.info? 4).map (fun i => (i.zero, i.size, i.bytes)) = some (some (.bool false), 1, 1) := by kernel_rfl
structure OwnB (w : World) (lo hi : Nat) (v : Value) (p : Nat → Bool) (n : Nat) : Prop where
  row : w.ownsRow lo 4 1 v n (bolL p n)
  lt : ∀ q, v.ownBlock = some q → q < hi
  room : hi ≤ w.heap.size
/-- A value that is a slice of these bools. -/
def BoolsV (w : World) (B : Nat) (v : Value) (p : Nat → Bool) (n : Nat) : Prop := ∃ q cap, v = .slice q n cap ∧ ∀ i, i < n → ∃ b off, q = some ⟨b, off, none⟩ ∧ b < B ∧ w.cell? ⟨b, off + i, none⟩ = some (.bool (p i))
theorem OwnB.below {w w' : World} {lo hi n : Nat} {v : Value} {p : Nat → Bool} (h : OwnB w lo hi v p n) (hb : Below hi w w') : OwnB w' lo hi v p n := by
  refine ⟨?_, h.lt, Nat.le_trans h.room hb.size⟩
  refine ⟨h.row.1, ?_⟩
  rcases h.row.2 with hn | ⟨g, cap, cur, h1, hb', hg, rest⟩
  · exact .inl hn
  · refine .inr ⟨g, cap, cur, h1, hb', ?_, rest⟩
    rw [hb.block g (h.lt g (by rw [h1]; simp [Value.ownBlock]))]; exact hg
theorem OwnB.wide {w : World} {lo hi hi' n : Nat} {v : Value} {p : Nat → Bool} (h : OwnB w lo hi v p n) (h2 : hi ≤ hi') (hr : hi' ≤ w.heap.size) : OwnB w lo hi' v p n :=
  ⟨h.row, fun q hq => by have := h.lt q hq; omega, hr⟩
theorem OwnB.boolsV {w : World} {lo hi n : Nat} {v : Value} {p : Nat → Bool} (h : OwnB w lo hi v p n) : BoolsV w hi v p n := by
  rcases h.row.2 with ⟨h1, h2⟩ | ⟨g, cap, cur, h1, hb, hg, hc, hm, _⟩
  · subst h2
    exact ⟨none, 0, h1, fun i hi => by omega⟩
  · subst h1
    refine ⟨_, cap, rfl, fun i hi => ⟨g, 0, rfl, h.lt g (by simp [Value.ownBlock]), ?_⟩⟩
    rw [Nat.zero_add, h.row.cellAt i (by omega), bolL_at p hi]
theorem OwnB.empty (p : Nat → Bool) (w : World) (lo : Nat) (hlo : lo ≤ w.heap.size) : OwnB (w.alloc (.cells #[] 4)) lo (w.alloc (.cells #[] 4)).heap.size (.slice (some ⟨w.heap.size, 0, none⟩) 0 0) p 0 := by
  refine ⟨⟨rfl, .inr ⟨w.heap.size, 0, #[], rfl, hlo, alloc_heap w _, by simp, by unfold maxLen; omega, rfl, rfl⟩⟩, ?_, Nat.le_refl _⟩
  intro q hq
  simp [Value.ownBlock] at hq
  subst hq
  simp
theorem OwnB.app {wr w3 : World} {lo k : Nat} {o v' : Value} {p : Nat → Bool} (h : OwnB wr lo wr.heap.size o p k)
    (hown : w3.ownsRow lo 4 1 v' (k + 1) (bolL p k ++ [.bool (p k)])) : OwnB w3 lo w3.heap.size v' p (k + 1) := by
  refine ⟨?_, fun q hq => (hown.lt q hq).2, Nat.le_refl _⟩
  rw [bolL_succ]; exact hown
theorem BoolsV.below {w w' : World} {B n : Nat} {v : Value} {p : Nat → Bool} (h : BoolsV w B v p n) (hb : Below B w w') : BoolsV w' B v p n := by
  obtain ⟨q, cap, e, h⟩ := h
  refine ⟨q, cap, e, fun i hi => ?_⟩
  obtain ⟨b, off, e2, hB, hc⟩ := h i hi
  exact ⟨b, off, e2, hB, by rw [hb.cell (p := ⟨b, off + i, none⟩) hB]; exact hc⟩
theorem BoolsV.more {w : World} {B B' n : Nat} {v : Value} {p : Nat → Bool} (h : BoolsV w B v p n) (hB : B ≤ B') : BoolsV w B' v p n := by
  obtain ⟨q, cap, e, h⟩ := h
  refine ⟨q, cap, e, fun i hi => ?_⟩
  obtain ⟨b, off, e2, hb, hc⟩ := h i hi
  exact ⟨b, off, e2, by omega, hc⟩
theorem bool_one_new (w : World) (v : Value) : ∀ (j : Nat) (u : Value), [v][j]? = some u → (w.alloc (.cells #[v] 4)).cell? ((⟨w.heap.size, 0, none⟩ : Addr).add j) = some u := by
  intro j u hu
  obtain ⟨hj, hu⟩ := List.getElem?_eq_some_iff.1 hu
  have hj0 : j = 0 := by simpa using hj
  subst hj0
  rw [Addr.add_lit, Nat.zero_add]
  have hh := alloc_heap w (.cells #[v] 4)
  refine (cell_of_heap (o := 0) hh ?_).1
  simpa using hu
end Go.Proofs.Ytagljebfbacdhab
