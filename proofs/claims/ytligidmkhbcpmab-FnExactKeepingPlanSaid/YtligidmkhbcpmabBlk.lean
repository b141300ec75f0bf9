/- Tables of ints that a call makes row by row: their cells; the table of zeros of ReturnCounts, in the model. -/
import Derived.Test.YtligidmkhbcpmabPrm
import Derived.Test.YtligidmkhbcpmabFill
import Derived.Deep.LoopGhost
namespace Go.Proofs.Ytligidmkhbcpmab
open Go.RowKit
set_option linter.unusedVariables false
theorem rowInfo : (Try.prog.info? 22).map (fun i => (i.zero, i.size, i.bytes)) = some (some (.slice none 0 0), 1, 24) := by kernel_rfl
/-- The values of the first k rows. -/
def rowsV (gs : Nat → Nat) (C k : Nat) : List Value := (List.range k).map fun i => .slice (some ⟨gs i, 0, none⟩) C C
theorem rowsV_len (gs : Nat → Nat) (C k : Nat) : (rowsV gs C k).length = k := by simp [rowsV]
theorem rowsV_at {gs : Nat → Nat} {C k i : Nat} (h : i < k) : (rowsV gs C k)[i]? = some (.slice (some ⟨gs i, 0, none⟩) C C) := by
  unfold rowsV; rw [List.getElem?_map, List.getElem?_range h]; rfl
theorem rowsV_succ (gs : Nat → Nat) (C k : Nat) : rowsV gs C (k + 1) = rowsV gs C k ++ [.slice (some ⟨gs k, 0, none⟩) C C] := by
  unfold rowsV; rw [List.range_succ, List.map_append]; rfl
theorem rowsV_congr {gs hs : Nat → Nat} {C k : Nat} (h : ∀ i, i < k → gs i = hs i) : rowsV gs C k = rowsV hs C k := by
  unfold rowsV
  exact List.map_congr_left fun i hi => by rw [h i (List.mem_range.1 hi)]
/-- The rows' own cells: row i lies in block gs i, all from lo on, all different. -/
structure RowsC (w : World) (lo : Nat) (gs : Nat → Nat) (R C : Nat) (F : Nat → Nat → Int) : Prop where
  lo : ∀ i, i < R → lo ≤ gs i ∧ gs i < w.heap.size
  ne : ∀ i j, i < R → j < R → i ≠ j → gs i ≠ gs j
  cell : ∀ i k, i < R → k < C → w.cell? ⟨gs i, k, none⟩ = some (.int .i64 (F i k))
  thaw : ∀ i k, i < R → k < C → w.frozen? ⟨gs i, k, none⟩ = false
theorem RowsC.keep {w w' : World} {lo R C : Nat} {gs : Nat → Nat} {F : Nat → Nat → Int} (h : RowsC w lo gs R C F) (hs : w.heap.size ≤ w'.heap.size) (hb : ∀ i, i < R → w'.heap[gs i]? = w.heap[gs i]?) : RowsC w' lo gs R C F := by
  refine ⟨fun i hi => ⟨(h.lo i hi).1, Nat.lt_of_lt_of_le (h.lo i hi).2 hs⟩, h.ne, fun i k hi hk => ?_, fun i k hi hk => ?_⟩
  · rw [World.cell?_of_block (hb i hi)]; exact h.cell i k hi hk
  · have := h.thaw i k hi hk
    unfold World.frozen? at this ⊢
    simp only [hb i hi]; exact this
theorem RowsC.below {w w' : World} {lo R C : Nat} {gs : Nat → Nat} {F : Nat → Nat → Int} (h : RowsC w lo gs R C F) (hb : Below w.heap.size w w') : RowsC w' lo gs R C F :=
  h.keep hb.size (fun i hi => hb.block _ (h.lo i hi).2)
theorem RowsC.none (w : World) (lo : Nat) (gs : Nat → Nat) (C : Nat) (F : Nat → Nat → Int) : RowsC w lo gs 0 C F :=
  ⟨fun i hi => by omega, fun i j hi => by omega, fun i k hi => by omega, fun i k hi => by omega⟩
/-- What l5Blank answers: a table of zeros in new memory. -/
def NewTab (R C : Nat) (w : World) (e : Ending) (w' : World) : Prop :=
  ∃ go co gs, e = .returned (.slice (some ⟨go, 0, none⟩) R co) ∧ w.heap.size ≤ go ∧ go < w'.heap.size ∧ (∀ i, i < R → gs i ≠ go) ∧
    (∀ i, i < R → w'.cell? ⟨go, i, none⟩ = some (.slice (some ⟨gs i, 0, none⟩) C C)) ∧ RowsC w' w.heap.size gs R C (fun _ _ => 0) ∧ Below w.heap.size w w'
theorem rowsV_nil (gs : Nat → Nat) (C : Nat) : rowsV gs C 0 = [] := rfl
def ext (gs : Nat → Nat) (k b : Nat) : Nat → Nat := fun i => if i < k then gs i else b
theorem ext_lt {gs : Nat → Nat} {k b i : Nat} (h : i < k) : ext gs k b i = gs i := if_pos h
theorem ext_at (gs : Nat → Nat) (k b : Nat) : ext gs k b k = b := if_neg (Nat.lt_irrefl k)
theorem blank_step {w wr w3 w4 : World} {u v : Value} {k C : Nat} {gs : Nat → Nat} {o : Obj} {xs : List Value} (hC : 0 < C)
    (HO : wr.ownsRow w.heap.size 22 1 u k xs) (HQ : ∀ i q, i < k → u.ownBlock = some q → gs i ≠ q) (HR : RowsC wr w.heap.size gs k C (fun _ _ => 0)) (HB : Below w.heap.size w wr)
    (h3 : OwnV w3 wr.heap.size w3.heap.size (.slice (some ⟨wr.heap.size, 0, none⟩) C C) (List.replicate C 0)) (g3 : wr.grownBy w3 none) (g4 : (w3.alloc o).grownBy w4 u.ownBlock)
    (l4 : v.ownBlock = u.ownBlock ∨ v.ownBlock = some (w3.alloc o).heap.size) :
    (∀ i q, i < k + 1 → v.ownBlock = some q → ext gs k wr.heap.size i ≠ q) ∧ RowsC w4 w.heap.size (ext gs k wr.heap.size) (k + 1) C (fun _ _ => 0) ∧ Below w.heap.size w w4 := by
  have hub : ∀ q, u.ownBlock = some q → w.heap.size ≤ q ∧ q < wr.heap.size := by
    intro q hq
    rcases HO.2 with ⟨e, _⟩ | ⟨g, cap, cur, e, hb, hgg, _⟩
    · rw [e] at hq; cases hq
    · rw [e] at hq
      simp only [Value.ownBlock, Option.some.injEq] at hq
      subst hq
      exact ⟨hb, (Array.getElem?_eq_some_iff.1 hgg).1⟩
  have s0 := HB.size
  have s3 := g3.size
  have sA : (w3.alloc o).heap.size = w3.heap.size + 1 := by simp
  have s4 := g4.size
  have b3 : wr.heap.size < w3.heap.size := by
    obtain ⟨g', cap', e, l1, l2⟩ := h3.shape (by rw [List.length_replicate]; exact hC)
    injection e with e1 _ _
    injection e1 with e2
    injection e2 with e3 _ _
    omega
  have far : ∀ q, q < w3.heap.size → u.ownBlock ≠ some q → w4.heap[q]? = w3.heap[q]? := fun q hq hne =>
    (g4.block q (by omega) (fun e => hne e.symm)).trans ((World.grownBy_alloc w3 o none).block q hq (by simp))
  have far2 : ∀ q, q < wr.heap.size → u.ownBlock ≠ some q → w4.heap[q]? = wr.heap[q]? := fun q hq hne =>
    (far q (by omega) hne).trans (g3.block q hq (by simp))
  have nb : w4.heap[wr.heap.size]? = w3.heap[wr.heap.size]? := far _ b3 (fun e => by have := (hub _ e).2; omega)
  have old := HR.keep (w' := w4) (by omega) (fun i hi => far2 _ (HR.lo i hi).2 (fun e => HQ i _ hi e rfl))
  refine ⟨fun i q hi hq => ?_, ⟨fun i hi => ?_, fun i j hi hj hij => ?_, fun i c hi hc => ?_, fun i c hi hc => ?_⟩, ?_⟩
  · rcases Nat.lt_or_ge i k with h | h
    · rw [ext_lt h]
      rcases l4 with l | l
      · exact HQ i q h (l ▸ hq)
      · rw [l] at hq
        injection hq with hq
        have := (HR.lo i h).2
        omega
    · have : i = k := by omega
      subst this
      rw [ext_at]
      rcases l4 with l | l
      · have := (hub q (l ▸ hq)).2; omega
      · rw [l] at hq
        injection hq with hq
        omega
  · rcases Nat.lt_or_ge i k with h | h
    · rw [ext_lt h]; exact old.lo i h
    · have : i = k := by omega
      subst this
      rw [ext_at]; omega
  · rcases Nat.lt_or_ge i k with h | h
    · rw [ext_lt h]
      rcases Nat.lt_or_ge j k with h2 | h2
      · rw [ext_lt h2]; exact HR.ne i j h h2 hij
      · have : j = k := by omega
        subst this
        rw [ext_at]
        have := (HR.lo i h).2; omega
    · have : i = k := by omega
      subst this
      rw [ext_at, ext_lt (by omega)]
      have := (HR.lo j (by omega)).2; omega
  · rcases Nat.lt_or_ge i k with h | h
    · rw [ext_lt h]; exact old.cell i c h hc
    · have : i = k := by omega
      subst this
      rw [ext_at, World.cell?_of_block (a := ⟨wr.heap.size, c, none⟩) nb, h3.cellGet (j := c) (by rw [List.length_replicate]; exact hc)]
      simp [List.getD_eq_getElem?_getD, hc]
  · rcases Nat.lt_or_ge i k with h | h
    · rw [ext_lt h]; exact old.thaw i c h hc
    · have : i = k := by omega
      subst this
      rw [ext_at, World.frozen?_of_block (a := ⟨wr.heap.size, c, none⟩) nb]
      exact h3.frozenGet c
  · exact ((HB.grown g3 s0 (fun q hq => by cases hq)).alloc (by omega) o).grown g4 (by omega) (fun q hq => (hub q hq).1)
end Go.Proofs.Ytligidmkhbcpmab
