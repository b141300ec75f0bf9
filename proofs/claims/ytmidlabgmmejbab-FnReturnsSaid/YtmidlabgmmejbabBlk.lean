/- Tables of ints that a call makes row by row: their cells; the table of zeros of ReturnCounts, in the model. -/
import Derived.Test.YtmidlabgmmejbabPrm
import Derived.Test.YtmidlabgmmejbabFill
import Derived.Deep.LoopGhost
namespace Go.Proofs.Ytmidlabgmmejbab
open Go.RowKit
set_option linter.unusedVariables false
theorem rowInfo : (Try.prog.info? 30).map (fun i => (i.zero, i.size, i.bytes)) = some (some (.slice none 0 0), 1, 24) := by kernel_rfl
/-- The values of the first k rows. -/
def rowsV (gs : Nat → Nat) (C k : Nat) : List Value := (List.range k).map fun i => .slice (some ⟨gs i, 0, none⟩) C C
theorem rowsV_len (gs : Nat → Nat) (C k : Nat) : (rowsV gs C k).length = k := by simp [rowsV]
theorem rowsV_at {gs : Nat → Nat} {C k i : Nat} (h : i < k) : (rowsV gs C k)[i]? = some (.slice (some ⟨gs i, 0, none⟩) C C) := by
  unfold rowsV; rw [List.getElem?_map, List.getElem?_range h]; rfl
theorem rowsV_succ (gs : Nat → Nat) (C k : Nat) : rowsV gs C (k + 1) = rowsV gs C k ++ [.slice (some ⟨gs k, 0, none⟩) C C] := by
  unfold rowsV; rw [List.range_succ, List.map_append]; rfl
theorem rowsV_congr {gs hs : Nat → Nat} {C k : Nat} (h : ∀ i, i < k → gs i = hs i) : rowsV gs C k = rowsV hs C k := by
  unfold rowsV
  exact List.map_congr_left fun i hi => by rw [h i (List.mem_range.1 hi)]
/-- The rows' own cells: row i lies in block gs i, all from lo on, all different. -/
structure RowsC (w : World) (lo : Nat) (gs : Nat → Nat) (R C : Nat) (F : Nat → Nat → Int) : Prop where
  lo : ∀ i, i < R → lo ≤ gs i ∧ gs i < w.heap.size
  ne : ∀ i j, i < R → j < R → i ≠ j → gs i ≠ gs j
  cell : ∀ i k, i < R → k < C → w.cell? ⟨gs i, k, none⟩ = some (.int .i64 (F i k))
  thaw : ∀ i k, i < R → k < C → w.frozen? ⟨gs i, k, none⟩ = false
theorem RowsC.keep {w w' : World} {lo R C : Nat} {gs : Nat → Nat} {F : Nat → Nat → Int} (h : RowsC w lo gs R C F) (hs : w.heap.size ≤ w'.heap.size) (hb : ∀ i, i < R → w'.heap[gs i]? = w.heap[gs i]?) : RowsC w' lo gs R C F := by
  refine ⟨fun i hi => ⟨(h.lo i hi).1, Nat.lt_of_lt_of_le (h.lo i hi).2 hs⟩, h.ne, fun i k hi hk => ?_, fun i k hi hk => ?_⟩
  · rw [World.cell?_of_block (hb i hi)]; exact h.cell i k hi hk
  · have := h.thaw i k hi hk
    unfold World.frozen? at this ⊢
    simp only [hb i hi]; exact this
theorem RowsC.below {w w' : World} {lo R C : Nat} {gs : Nat → Nat} {F : Nat → Nat → Int} (h : RowsC w lo gs R C F) (hb : Below w.heap.size w w') : RowsC w' lo gs R C F :=
  h.keep hb.size (fun i hi => hb.block _ (h.lo i hi).2)
theorem RowsC.none (w : World) (lo : Nat) (gs : Nat → Nat) (C : Nat) (F : Nat → Nat → Int) : RowsC w lo gs 0 C F :=
  ⟨fun i hi => by omega, fun i j hi => by omega, fun i k hi => by omega, fun i k hi => by omega⟩
/-- What l5Blank answers: a table of zeros in new memory. -/
def NewTab (R C : Nat) (w : World) (e : Ending) (w' : World) : Prop :=
  ∃ go co gs, e = .returned (.slice (some ⟨go, 0, none⟩) R co) ∧ w.heap.size ≤ go ∧ go < w'.heap.size ∧ (∀ i, i < R → gs i ≠ go) ∧
    (∀ i, i < R → w'.cell? ⟨go, i, none⟩ = some (.slice (some ⟨gs i, 0, none⟩) C C)) ∧ RowsC w' w.heap.size gs R C (fun _ _ => 0) ∧ Below w.heap.size w w'
theorem rowsV_nil (gs : Nat → Nat) (C : Nat) : rowsV gs C 0 = [] := rfl
def ext (gs : Nat → Nat) (k b : Nat) : Nat → Nat := fun i => if i < k then gs i else b
theorem ext_lt {gs : Nat → Nat} {k b i : Nat} (h : i < k) : ext gs k b i = gs i := if_pos h
theorem ext_at (gs : Nat → Nat) (k b : Nat) : ext gs k b k = b := if_neg (Nat.lt_irrefl k)
theorem blank_step {w wr w3 w4 : World} {u v : Value} {k C : Nat} {gs : Nat → Nat} {o : Obj} {xs : List Value} (hC : 0 < C)
    (HO : wr.ownsRow w.heap.size 30 1 u k xs) (HQ : ∀ i q, i < k → u.ownBlock = some q → gs i ≠ q) (HR : RowsC wr w.heap.size gs k C (fun _ _ => 0)) (HB : Below w.heap.size w wr)
    (h3 : OwnV w3 wr.heap.size w3.heap.size (.slice (some ⟨wr.heap.size, 0, none⟩) C C) (List.replicate C 0)) (g3 : wr.grownBy w3 none) (g4 : (w3.alloc o).grownBy w4 u.ownBlock)
    (l4 : v.ownBlock = u.ownBlock ∨ v.ownBlock = some (w3.alloc o).heap.size) :
    (∀ i q, i < k + 1 → v.ownBlock = some q → ext gs k wr.heap.size i ≠ q) ∧ RowsC w4 w.heap.size (ext gs k wr.heap.size) (k + 1) C (fun _ _ => 0) ∧ Below w.heap.size w w4 := by
  have hub : ∀ q, u.ownBlock = some q → w.heap.size ≤ q ∧ q < wr.heap.size := by
    intro q hq
    rcases HO.2 with ⟨e, _⟩ | ⟨g, cap, cur, e, hb, hgg, _⟩
    · rw [e] at hq; cases hq
    · rw [e] at hq
      simp only [Value.ownBlock, Option.some.injEq] at hq
      subst hq
      exact ⟨hb, (Array.getElem?_eq_some_iff.1 hgg).1⟩
  have s0 := HB.size
  have s3 := g3.size
  have sA : (w3.alloc o).heap.size = w3.heap.size + 1 := by simp
  have s4 := g4.size
  have b3 : wr.heap.size < w3.heap.size := by
    obtain ⟨g', cap', e, l1, l2⟩ := h3.shape (by rw [List.length_replicate]; exact hC)
    injection e with e1 _ _
    injection e1 with e2
    injection e2 with e3 _ _
    omega
  have far : ∀ q, q < w3.heap.size → u.ownBlock ≠ some q → w4.heap[q]? = w3.heap[q]? := fun q hq hne =>
    (g4.block q (by omega) (fun e => hne e.symm)).trans ((World.grownBy_alloc w3 o none).block q hq (by simp))
  have far2 : ∀ q, q < wr.heap.size → u.ownBlock ≠ some q → w4.heap[q]? = wr.heap[q]? := fun q hq hne =>
    (far q (by omega) hne).trans (g3.block q hq (by simp))
  have nb : w4.heap[wr.heap.size]? = w3.heap[wr.heap.size]? := far _ b3 (fun e => by have := (hub _ e).2; omega)
  have old := HR.keep (w' := w4) (by omega) (fun i hi => far2 _ (HR.lo i hi).2 (fun e => HQ i _ hi e rfl))
  refine ⟨fun i q hi hq => ?_, ⟨fun i hi => ?_, fun i j hi hj hij => ?_, fun i c hi hc => ?_, fun i c hi hc => ?_⟩, ?_⟩
  · rcases Nat.lt_or_ge i k with h | h
    · rw [ext_lt h]
      rcases l4 with l | l
      · exact HQ i q h (l ▸ hq)
      · rw [l] at hq
        injection hq with hq
        have := (HR.lo i h).2
        omega
    · have : i = k := by omega
      subst this
      rw [ext_at]
      rcases l4 with l | l
      · have := (hub q (l ▸ hq)).2; omega
      · rw [l] at hq
        injection hq with hq
        omega
  · rcases Nat.lt_or_ge i k with h | h
    · rw [ext_lt h]; exact old.lo i h
    · have : i = k := by omega
      subst this
      rw [ext_at]; omega
  · rcases Nat.lt_or_ge i k with h | h
    · rw [ext_lt h]
      rcases Nat.lt_or_ge j k with h2 | h2
      · rw [ext_lt h2]; exact HR.ne i j h h2 hij
      · have : j = k := by omega
        subst this
        rw [ext_at]
        have := (HR.lo i h).2; omega
    · have : i = k := by omega
      subst this
      rw [ext_at, ext_lt (by omega)]
      have := (HR.lo j (by omega)).2; omega
  · rcases Nat.lt_or_ge i k with h | h
    · rw [ext_lt h]; exact old.cell i c h hc
    · have : i = k := by omega
      subst this
      rw [ext_at, World.cell?_of_block (a := ⟨wr.heap.size, c, none⟩) nb, h3.cellGet (j := c) (by rw [List.length_replicate]; exact hc)]
      simp [List.getD_eq_getElem?_getD, hc]
  · rcases Nat.lt_or_ge i k with h | h
    · rw [ext_lt h]; exact old.thaw i c h hc
    · have : i = k := by omega
      subst this
      rw [ext_at, World.frozen?_of_block (a := ⟨wr.heap.size, c, none⟩) nb]
      exact h3.frozenGet c
  · exact ((HB.grown g3 s0 (fun q hq => by cases hq)).alloc (by omega) o).grown g4 (by omega) (fun q hq => (hub q hq).1)
set_option maxRecDepth 100000 in
set_option maxHeartbeats 4000000 in
theorem blankS (m h : Nat) (w : World) (hm : m ≤ 2 * h) (hm2 : 2 * h ≤ m) (hh : h ≤ 15) : Calls Try.prog 93 #[.int .i64 m] w (NewTab (2 * m + 1) (h + 2) w) := by
  obtain ⟨i0, hi, hz0, hz1, hz2⟩ := info_parts intInfo
  obtain ⟨j0, hj, hy0, hy1, hy2⟩ := info_parts rowInfo
  have T2 : Int.tdiv (m : Int) 2 = (h : Int) := by rw [Int.tdiv_eq_ediv_of_nonneg (by omega)]; omega
  have T3 : (m : Int) / 2 = (h : Int) := by omega
  obtain ⟨C, hC⟩ : ∃ C, C = h + 2 := ⟨_, rfl⟩
  have hC1 : (h : Int) + 2 = (C : Int) := by omega
  obtain ⟨R, hR⟩ : ∃ R, R = 2 * m + 1 := ⟨_, rfl⟩
  have cb : C ≤ 17 := by omega
  have rb : R ≤ 61 := by omega
  have r1 : R ≤ 2 * m + 1 := by omega
  have r2 : 2 * m + 1 ≤ R := by omega
  rw [← hC, ← hR]
  have c1' : i0.bytes * C ≤ 281474976710656 := by rw [hz2]; omega
  have c2' : C ≤ maxLen := by unfold maxLen; omega
  have O0 : Hid ((w.alloc (.cells #[] 30)).ownsRow w.heap.size 30 1 (.slice (some ⟨w.heap.size, 0, none⟩) 0 0) 0 (rowsV (fun _ => 0) C 0)) := Lib.hid ⟨rfl, .inr ⟨w.heap.size, 0, #[], rfl, Nat.le_refl _, alloc_heap w _, by simp, by unfold maxLen; omega, rfl, rfl⟩⟩
  have R0 : Hid (RowsC (w.alloc (.cells #[] 30)) w.heap.size (fun _ => 0) 0 C (fun _ _ => 0)) := Lib.hid (RowsC.none _ _ _ _ _)
  have B0 := Lib.hid ((Below.refl w.heap.size w).alloc (Nat.le_refl _) (.cells #[] 30))
  clear hC hR
  go_enter Try.func93, Try.ntmps93
  go_wp2_with fail
  go_loopg [3, 4] R (fun gg o i wr => ∃ (k : Nat) (gs : Nat → Nat), k ≤ R ∧ R - k ≤ gg ∧ i = .int .i64 k ∧ Hid (wr.ownsRow w.heap.size 30 1 o k (rowsV gs C k)) ∧ Hid (∀ i q, i < k → o.ownBlock = some q → gs i ≠ q) ∧ Hid (RowsC wr w.heap.size gs k C (fun _ _ => 0)) ∧ Hid (Below w.heap.size w wr))
  case atStart => exact ⟨0, fun _ => 0, Nat.zero_le _, by omega, rfl, O0, Lib.hid (fun i q hi => by omega), R0, B0⟩
  case round =>
    clear O0 R0 B0
    obtain ⟨k, gs, hk, hgg, rfl, HO, HQ, HR, HB⟩ := hrel
    by_cases hlt : k < R
    · have t1 : 2 * (m : Int) ≥ (k : Int) := by omega
      have t2 : (k : Int) ≤ 2 * (m : Int) := by omega
      have hown := HO.out
      have hs1 := HB.out.size
      have hcp : 0 < C := by omega
      go_wp2_with (first
        | (at_make; refine wpList_make_full _ rfl _ _ 30 rfl wr.heap.size 3 i0 (.int .i64 0) 1 Try.underlying30 hi hz0 hz1 .i64 .i64 _ _ C rfl rfl rfl rfl c1' c2' (Nat.le_refl _) ?_; intro w3 hown3 hg3; have hown2 := hown.kept hg3 (Classical.em _); have hs3 := hg3.size)
        | (at_builtin; refine wpList_append_own_at _ rfl _ _ 67 rfl w.heap.size 30 j0 (.slice none 0 0) 1 24 Try.underlying67 hj hy0 hy1 hy2 rfl (by decide) _ k (rowsV gs C k) rfl (hown2.alloc _) ⟨w3.heap.size, 0, none⟩ 1 1 [.slice (some ⟨wr.heap.size, 0, none⟩) C C] rfl rfl (cell_one_new _ _ _) (fun u hu => by simp at hu; subst hu; rfl) (by unfold maxLen; omega) (by omega) (by simp; omega) ?_; intro v' w4 hown4 hgrow4 hnil4 hloc4))
      have hown5 : w3.ownsRow wr.heap.size 3 1 (.slice (some ⟨wr.heap.size, 0, none⟩) C C) C (List.replicate C (.int .i64 0)) := by
        have h2 := hown3
        rw [show (Value.int .i64 0).cells = #[Value.int .i64 0] from rfl, Nat.mul_one, toList_madeCells_one] at h2
        simpa using h2
      obtain ⟨N1, N2, N3⟩ := blank_step hcp hown HQ.out HR.out HB.out (OwnV.made hown5) hg3 hgrow4 hloc4
      have HQ2 := Lib.hid N1
      have HR2 := Lib.hid N2
      have HB2 := Lib.hid N3
      have HO2 : Hid (w4.ownsRow w.heap.size 30 1 v' (k + 1) (rowsV (ext gs k wr.heap.size) C (k + 1))) := Lib.hid (by
        rw [rowsV_succ, ext_at, rowsV_congr (hs := gs) (fun i hi => ext_lt hi)]
        exact hown4)
      clear hown hown2 hown3 hown4 hown5 hg3 hgrow4 hnil4 hloc4 N1 N2 N3 HO HQ HR HB hs1 hs3
      go_wp2_with fail
      go_roundg (R - (k + 1))
      case rel => exact ⟨k + 1, _, by omega, by omega, by go_num, HO2, HQ2, HR2, HB2⟩
      case measure => omega
    · have hkR : k = R := by omega
      clear hk hgg hlt
      subst hkR
      have FIN : Hid (∀ e, e = Ending.returned u3 → NewTab k C w e wr) := Lib.hid (fun e he => by
        rcases HO.out.2 with ⟨_, h0⟩ | ⟨g, cap, cur, e2, hb, hgg, _⟩
        · omega
        · subst e2
          refine ⟨g, cap, gs, he, hb, (Array.getElem?_eq_some_iff.1 hgg).1, fun i hi => HQ.out i g hi rfl, fun i hi => ?_, HR.out, HB.out⟩
          rw [HO.out.cellAt i (by omega)]
          exact rowsV_at hi)
      have t1 : ¬ ((k : Int) ≤ 2 * (m : Int)) := by omega
      have t2 : 2 * (m : Int) < (k : Int) := by omega
      clear HO HQ HR HB
      go_wp2_with fail
      go_ret
      exact FIN.out _ rfl
end Go.Proofs.Ytmidlabgmmejbab
