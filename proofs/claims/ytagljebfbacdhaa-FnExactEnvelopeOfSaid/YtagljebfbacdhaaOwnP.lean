/- Rows of elements of two cells, of a call's own. -/
import Derived.Test.YtagljebfbacdhaaRow
namespace Go.Proofs.Ytagljebfbacdhaa
open Go.RowKit
set_option linter.unusedVariables false
def flat2 (ls : List (Value × Value)) : List Value := ls.flatMap fun p => [p.1, p.2]
theorem flat2_nil : flat2 [] = [] := rfl
theorem flat2_cons (p : Value × Value) (ls : List (Value × Value)) : flat2 (p :: ls) = p.1 :: p.2 :: flat2 ls := rfl
theorem flat2_app (a b : List (Value × Value)) : flat2 (a ++ b) = flat2 a ++ flat2 b := by unfold flat2; rw [List.flatMap_append]
theorem flat2_len (ls : List (Value × Value)) : (flat2 ls).length = ls.length * 2 := by
  induction ls with
  | nil => rfl
  | cons p t ih => rw [flat2_cons, List.length_cons, List.length_cons, ih, List.length_cons]; omega
theorem flat2_at : ∀ (ls : List (Value × Value)) (j : Nat) (p : Value × Value), ls[j]? = some p → (flat2 ls)[j * 2]? = some p.1 ∧ (flat2 ls)[j * 2 + 1]? = some p.2 := by
  intro ls
  induction ls with
  | nil => intro j p h; simp at h
  | cons a t ih =>
    intro j p h
    cases j with
    | zero => simp at h; subst h; exact ⟨rfl, rfl⟩
    | succ j =>
      have h2 := ih j p (by simpa using h)
      rw [flat2_cons, show (j + 1) * 2 = j * 2 + 1 + 1 by omega]
      exact ⟨by simpa using h2.1, by simpa using h2.2⟩
structure OwnP (T : TypeId) (w : World) (lo hi : Nat) (v : Value) (ls : List (Value × Value)) : Prop where
  row : w.ownsRow lo T 2 v ls.length (flat2 ls)
  lt : ∀ q, v.ownBlock = some q → q < hi
  room : hi ≤ w.heap.size
theorem OwnP.below {T : TypeId} {w w' : World} {lo hi : Nat} {v : Value} {ls : List (Value × Value)} (h : OwnP T w lo hi v ls) (hb : Below hi w w') : OwnP T w' lo hi v ls := by
  refine ⟨?_, h.lt, Nat.le_trans h.room hb.size⟩
  refine ⟨h.row.1, ?_⟩
  rcases h.row.2 with hn | ⟨g, cap, cur, h1, hb', hg, rest⟩
  · exact .inl hn
  · refine .inr ⟨g, cap, cur, h1, hb', ?_, rest⟩
    rw [hb.block g (h.lt g (by rw [h1]; simp [Value.ownBlock]))]; exact hg
theorem OwnP.wide {T : TypeId} {w : World} {lo hi hi' : Nat} {v : Value} {ls : List (Value × Value)} (h : OwnP T w lo hi v ls) (h2 : hi ≤ hi') (hr : hi' ≤ w.heap.size) : OwnP T w lo hi' v ls :=
  ⟨h.row, fun q hq => by have := h.lt q hq; omega, hr⟩
theorem OwnP.low {T : TypeId} {w : World} {lo lo' hi : Nat} {v : Value} {ls : List (Value × Value)} (h : OwnP T w lo hi v ls) (h1 : lo' ≤ lo) : OwnP T w lo' hi v ls := by
  refine ⟨⟨h.row.1, ?_⟩, h.lt, h.room⟩
  rcases h.row.2 with hn | ⟨g, cap, cur, h2, hb', rest⟩
  · exact .inl hn
  · exact .inr ⟨g, cap, cur, h2, by omega, rest⟩
theorem OwnP.shape {T : TypeId} {w : World} {lo hi : Nat} {v : Value} {ls : List (Value × Value)} (h : OwnP T w lo hi v ls) (hp : 0 < ls.length) : ∃ g cap, v = .slice (some ⟨g, 0, none⟩) ls.length cap ∧ lo ≤ g ∧ g < hi := by
  rcases h.row.2 with ⟨_, h2⟩ | ⟨g, cap, cur, h1, hb, _⟩
  · omega
  · exact ⟨g, cap, h1, hb, h.lt g (by rw [h1]; simp [Value.ownBlock])⟩
theorem OwnP.cellGet {T : TypeId} {w : World} {lo hi g cap : Nat} {ls : List (Value × Value)} (h : OwnP T w lo hi (.slice (some ⟨g, 0, none⟩) ls.length cap) ls) {j : Nat} {p : Value × Value} (hj : ls[j]? = some p) : w.cell? ⟨g, j * 2, none⟩ = some p.1 ∧ w.cell? ⟨g, j * 2 + 1, none⟩ = some p.2 := by
  have hlt : j < ls.length := (List.getElem?_eq_some_iff.1 hj).1
  obtain ⟨h1, h2⟩ := flat2_at ls j p hj
  rw [h.row.cellAt (j * 2) (by omega), h.row.cellAt (j * 2 + 1) (by omega)]
  exact ⟨h1, h2⟩
theorem OwnP.app {T : TypeId} {wr w3 : World} {lo : Nat} {o v' : Value} {L : List (Value × Value)} {p : Value × Value} (h : OwnP T wr lo wr.heap.size o L)
    (hown : w3.ownsRow lo T 2 v' (L.length + 1) (flat2 L ++ [p.1, p.2])) : OwnP T w3 lo w3.heap.size v' (L ++ [p]) := by
  refine ⟨?_, fun q hq => (hown.lt q hq).2, Nat.le_refl _⟩
  rw [List.length_append, flat2_app]; exact hown
theorem OwnP.single (T : TypeId) (w : World) (lo : Nat) (p : Value × Value) (hlo : lo ≤ w.heap.size) : OwnP T (w.alloc (.cells #[p.1, p.2] T)) lo (w.alloc (.cells #[p.1, p.2] T)).heap.size (.slice (some ⟨w.heap.size, 0, none⟩) 1 1) [p] := by
  refine ⟨⟨rfl, .inr ⟨w.heap.size, 1, #[p.1, p.2], rfl, hlo, alloc_heap w _, by simp, by unfold maxLen; omega, rfl, rfl⟩⟩, ?_, Nat.le_refl _⟩
  intro q hq
  simp [Value.ownBlock] at hq
  subst hq
  simp
/-- A row in new memory. -/
def NewP (T : TypeId) (ls : List (Value × Value)) (w : World) (e : Ending) (w' : World) : Prop :=
  ∃ v, e = .returned v ∧ OwnP T w' w.heap.size w'.heap.size v ls ∧ Below w.heap.size w w'
/-- The first k of the elements that a function tells. -/
def rowP (f : Nat → Value × Value) (k : Nat) : List (Value × Value) := (List.range k).map f
theorem rowP_len (f : Nat → Value × Value) (k : Nat) : (rowP f k).length = k := by simp [rowP]
theorem rowP_succ (f : Nat → Value × Value) (k : Nat) : rowP f (k + 1) = rowP f k ++ [f k] := by unfold rowP; rw [List.range_succ, List.map_append]; rfl
theorem rowP_at (f : Nat → Value × Value) {j k : Nat} (h : j < k) : (rowP f k)[j]? = some (f j) := by unfold rowP; rw [List.getElem?_map, List.getElem?_range h]; rfl
theorem cell_two_new (w : World) (a b : Value) (T : TypeId) : ∀ (j : Nat) (u : Value), [a, b][j]? = some u → (w.alloc (.cells #[a, b] T)).cell? ((⟨w.heap.size, 0, none⟩ : Addr).add j) = some u := by
  intro j u hu
  obtain ⟨hj, hu⟩ := List.getElem?_eq_some_iff.1 hu
  rw [Addr.add_lit, Nat.zero_add]
  have hh := alloc_heap w (.cells #[a, b] T)
  refine (cell_of_heap (o := j) hh ?_).1
  have : j = 0 ∨ j = 1 := by simp at hj; omega
  rcases this with rfl | rfl
  · simpa using hu
  · simpa using hu
end Go.Proofs.Ytagljebfbacdhaa
