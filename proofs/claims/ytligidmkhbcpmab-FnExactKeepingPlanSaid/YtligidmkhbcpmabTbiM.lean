/- Tables that a call makes row by row, in the model: their cells, kept and changed; the table of zeros. -/
import Derived.Test.YtligidmkhbcpmabBlk
import Derived.Test.YtligidmkhbcpmabShpP
import Derived.Test.YtligidmkhbcpmabTabG
namespace Go.Proofs.Ytligidmkhbcpmab
open Go.RowKit
set_option linter.unusedVariables false
/-- A square table: its list in block go, its rows in blocks gs i, all from lo on and below hi, all different. -/
structure TabI (w : World) (lo hi go : Nat) (gs : Nat → Nat) (n : Nat) (f : Nat → List Int) : Prop where
  room : lo ≤ go ∧ go < hi ∧ hi ≤ w.heap.size
  rows : ∀ i, i < n → lo ≤ gs i ∧ gs i < hi ∧ gs i ≠ go
  ne : ∀ i j, i < n → j < n → i ≠ j → gs i ≠ gs j
  out : ∀ i, i < n → w.cell? ⟨go, i, none⟩ = some (.slice (some ⟨gs i, 0, none⟩) n n)
  cell : ∀ i k, i < n → k < n → w.cell? ⟨gs i, k, none⟩ = some (.int .i64 ((f i).getD k 0))
  thaw : ∀ i k, i < n → k < n → w.frozen? ⟨gs i, k, none⟩ = false
  len : ∀ i, i < n → (f i).length = n
  in64 : ∀ i k, i < n → k < n → InI64 ((f i).getD k 0)
theorem TabI.keep {w w' : World} {lo hi go n : Nat} {gs : Nat → Nat} {f : Nat → List Int} (h : TabI w lo hi go gs n f) (hs : w.heap.size ≤ w'.heap.size) (hb : ∀ b, lo ≤ b → b < hi → w'.heap[b]? = w.heap[b]?) : TabI w' lo hi go gs n f := by
  have r := h.room
  refine ⟨⟨r.1, r.2.1, by omega⟩, h.rows, h.ne, fun i hi => ?_, fun i k hi hk => ?_, fun i k hi hk => ?_, h.len, h.in64⟩
  · rw [World.cell?_of_block (a := ⟨go, i, none⟩) (hb _ r.1 r.2.1)]; exact h.out i hi
  · rw [World.cell?_of_block (a := ⟨gs i, k, none⟩) (hb _ (h.rows i hi).1 (h.rows i hi).2.1)]; exact h.cell i k hi hk
  · rw [World.frozen?_of_block (a := ⟨gs i, k, none⟩) (hb _ (h.rows i hi).1 (h.rows i hi).2.1)]; exact h.thaw i k hi hk
theorem TabI.below {w w' : World} {lo hi go n : Nat} {gs : Nat → Nat} {f : Nat → List Int} (h : TabI w lo hi go gs n f) (hb : Below hi w w') : TabI w' lo hi go gs n f :=
  h.keep hb.size (fun b _ h2 => hb.block b h2)
theorem TabI.alt {w w' : World} {lo hi go n lo' hi' : Nat} {gs : Nat → Nat} {f : Nat → List Int} (h : TabI w lo hi go gs n f) (ha : Alt lo' hi' w w') (hd : hi ≤ lo' ∨ hi' ≤ lo) : TabI w' lo hi go gs n f :=
  h.keep ha.size (fun b h1 h2 => ha.block b (by have := h.room; omega) (by omega))
theorem TabI.set {w : World} {lo hi go n : Nat} {gs : Nat → Nat} {f : Nat → List Int} (h : TabI w lo hi go gs n f) {t k : Nat} {x : Int} (ht : t < n) (hk : k < n) (hx : InI64 x) :
    TabI (w.setCell ⟨gs t, k, none⟩ (.int .i64 x)) lo hi go gs n (updF f t ((f t).set k x)) := by
  have r := h.room
  have gd : ∀ i q, i < n → q < n → (updF f t ((f t).set k x) i).getD q 0 = if i = t ∧ q = k then x else (f i).getD q 0 := fun i q hi hq => by
    unfold updF
    by_cases e : i = t
    · subst e
      rw [if_pos rfl, getD_setY, h.len i hi]
      by_cases e2 : q = k
      · rw [if_pos ⟨e2.symm, hq⟩, if_pos ⟨rfl, e2⟩]
      · rw [if_neg (fun c => e2 c.1.symm), if_neg (fun c => e2 c.2)]
    · rw [if_neg e, if_neg (fun c => e c.1)]
  refine ⟨⟨r.1, r.2.1, by simpa [World.setCell] using r.2.2⟩, h.rows, h.ne, fun i hi => ?_, fun i q hi hq => ?_, fun i q hi hq => ?_, fun i hi => ?_, fun i q hi hq => ?_⟩
  · rw [World.cell?_setCell_other _ _ _ _ (by intro e; injection e with e1; exact (h.rows t ht).2.2 e1)]; exact h.out i hi
  · rw [gd i q hi hq]
    by_cases e : i = t ∧ q = k
    · obtain ⟨rfl, rfl⟩ := e
      rw [if_pos ⟨rfl, rfl⟩]
      exact World.cell?_setCell_same _ _ _ (h.cell i q hi hq)
    · rw [if_neg e, World.cell?_setCell_other _ _ _ _ (by
        intro e2; injection e2 with e1 e3
        by_cases h3 : i = t
        · exact e ⟨h3, by omega⟩
        · first | exact h.ne _ _ hi ht h3 e1 | exact h.ne _ _ hi ht h3 e1.symm)]
      exact h.cell i q hi hq
  · rw [World.frozen?_setCell]; exact h.thaw i q hi hq
  · unfold updF
    split
    · next e => rw [List.length_set]; exact h.len t ht
    · exact h.len i hi
  · rw [gd i q hi hq]
    split
    · exact hx
    · exact h.in64 i q hi hq
theorem TabI.tabV {w : World} {lo hi go n co : Nat} {gs : Nat → Nat} {f : Nat → List Int} (h : TabI w lo hi go gs n f) (hn : n ≤ co) (hm : n ≤ 1048576) : TabV w hi (.slice (some ⟨go, 0, none⟩) n co) n f := by
  have m : n ≤ maxLen := by unfold maxLen; omega
  refine ⟨_, co, rfl, hn, m, fun i hi' => ⟨go, 0, _, rfl, h.room.2.1, by rw [Nat.zero_add]; exact h.out i hi', ?_⟩⟩
  have hl := h.len i hi'
  refine ⟨some ⟨gs i, 0, none⟩, n, by rw [hl], by rw [hl]; exact Nat.le_refl _, by rw [hl]; exact m, fun z hz => ?_, fun k hk => ⟨gs i, 0, rfl, (h.rows i hi').2.1, ?_⟩⟩
  · obtain ⟨k, hk, e⟩ := List.getElem_of_mem hz
    have := h.in64 i k hi' (by omega)
    rw [List.getD_eq_getElem?_getD, List.getElem?_eq_getElem hk] at this
    rw [← e]; exact this
  · have := h.cell i k hi' (by omega)
    rw [Nat.zero_add, this, List.getD_eq_getElem?_getD, List.getElem?_eq_getElem hk]; rfl
/-- A square table in new memory. -/
def NewTabJ (n : Nat) (f : Nat → List Int) (w : World) (e : Ending) (w' : World) : Prop :=
  ∃ go co gs, e = .returned (.slice (some ⟨go, 0, none⟩) n co) ∧ n ≤ co ∧ TabI w' w.heap.size w'.heap.size go gs n f ∧ Below w.heap.size w w'
theorem getD_zerosJ (n i : Nat) : (List.replicate n (0 : Int)).getD i 0 = 0 := by
  rw [List.getD_eq_getElem?_getD, List.getElem?_replicate]; split <;> rfl
theorem newTabJ {n co go : Nat} {gs : Nat → Nat} {w w' : World} (h1 : w.heap.size ≤ go) (h2 : go < w'.heap.size) (h3 : ∀ i, i < n → gs i ≠ go) (h4 : ∀ i, i < n → w'.cell? ⟨go, i, none⟩ = some (.slice (some ⟨gs i, 0, none⟩) n n)) (h5 : RowsC w' w.heap.size gs n n (fun _ _ => 0)) (h6 : Below w.heap.size w w') (hc : n ≤ co) :
    NewTabJ n (fun _ => List.replicate n 0) w (.returned (.slice (some ⟨go, 0, none⟩) n co)) w' :=
  ⟨go, co, gs, rfl, hc, ⟨⟨h1, h2, Nat.le_refl _⟩, fun i hi => ⟨(h5.lo i hi).1, (h5.lo i hi).2, h3 i hi⟩, h5.ne, h4, fun i k hi hk => by rw [h5.cell i k hi hk, getD_zerosJ], h5.thaw, fun i hi => by simp, fun i k hi hk => by rw [getD_zerosJ]; unfold InI64; omega⟩, h6⟩
set_option maxRecDepth 100000 in
set_option maxHeartbeats 4000000 in
theorem emptyS (n : Nat) (w : World) (hn : 0 < n) (h8 : n ≤ 8) : Calls Try.prog 53 #[.int .i64 n, .int .i64 n] w (NewTabJ n (fun _ => List.replicate n 0) w) := by
  obtain ⟨i0, hi, hz0, hz1, hz2⟩ := info_parts intInfo
  obtain ⟨j0, hj, hy0, hy1, hy2⟩ := info_parts rowInfo
  have c1' : i0.bytes * n ≤ 281474976710656 := by rw [hz2]; omega
  have c2' : n ≤ maxLen := by unfold maxLen; omega
  have O0 : Hid ((w.alloc (.cells #[] 22)).ownsRow w.heap.size 22 1 (.slice (some ⟨w.heap.size, 0, none⟩) 0 0) 0 (rowsV (fun _ => 0) n 0)) := Lib.hid ⟨rfl, .inr ⟨w.heap.size, 0, #[], rfl, Nat.le_refl _, alloc_heap w _, by simp, by unfold maxLen; omega, rfl, rfl⟩⟩
  have R0 : Hid (RowsC (w.alloc (.cells #[] 22)) w.heap.size (fun _ => 0) 0 n (fun _ _ => 0)) := Lib.hid (RowsC.none _ _ _ _ _)
  have B0 := Lib.hid ((Below.refl w.heap.size w).alloc (Nat.le_refl _) (.cells #[] 22))
  go_enter Try.func53, Try.ntmps53
  go_wp2_with fail
  go_loopg [5, 6] n (fun gg o i wr => ∃ (k : Nat) (gs : Nat → Nat), k ≤ n ∧ n - k ≤ gg ∧ i = .int .i64 k ∧ Hid (wr.ownsRow w.heap.size 22 1 o k (rowsV gs n k)) ∧ Hid (∀ i q, i < k → o.ownBlock = some q → gs i ≠ q) ∧ Hid (RowsC wr w.heap.size gs k n (fun _ _ => 0)) ∧ Hid (Below w.heap.size w wr))
  case atStart => exact ⟨0, fun _ => 0, Nat.zero_le _, by omega, rfl, O0, Lib.hid (fun i q hi => by omega), R0, B0⟩
  case round =>
    clear O0 R0 B0
    obtain ⟨k, gs, hk, hgg, rfl, HO, HQ, HR, HB⟩ := hrel
    by_cases hlt : k < n
    · have t2 : (k : Int) < (n : Int) := by omega
      have hown := HO.out
      have hs1 := HB.out.size
      go_wp2_with (first
        | (at_make; refine wpList_make_full _ rfl _ _ 22 rfl wr.heap.size 3 i0 (.int .i64 0) 1 Try.underlying22 hi hz0 hz1 .i64 .i64 _ _ n rfl rfl rfl rfl c1' c2' (Nat.le_refl _) ?_; intro w3 hown3 hg3; have hown2 := hown.kept hg3 (Classical.em _); have hs3 := hg3.size)
        | (at_builtin; refine wpList_append_own_at _ rfl _ _ 23 rfl w.heap.size 22 j0 (.slice none 0 0) 1 24 Try.underlying23 hj hy0 hy1 hy2 rfl (by decide) _ k (rowsV gs n k) rfl (hown2.alloc _) ⟨w3.heap.size, 0, none⟩ 1 1 [.slice (some ⟨wr.heap.size, 0, none⟩) n n] rfl rfl (cell_one_new _ _ _) (fun u hu => by simp at hu; subst hu; rfl) (by unfold maxLen; omega) (by omega) (by simp; omega) ?_; intro v' w4 hown4 hgrow4 hnil4 hloc4))
      have hown5 : w3.ownsRow wr.heap.size 3 1 (.slice (some ⟨wr.heap.size, 0, none⟩) n n) n (List.replicate n (.int .i64 0)) := by
        have h2 := hown3
        rw [show (Value.int .i64 0).cells = #[Value.int .i64 0] from rfl, Nat.mul_one, toList_madeCells_one] at h2
        simpa using h2
      obtain ⟨N1, N2, N3⟩ := blank_step hn hown HQ.out HR.out HB.out (OwnV.made hown5) hg3 hgrow4 hloc4
      have HQ2 := Lib.hid N1
      have HR2 := Lib.hid N2
      have HB2 := Lib.hid N3
      have HO2 : Hid (w4.ownsRow w.heap.size 22 1 v' (k + 1) (rowsV (ext gs k wr.heap.size) n (k + 1))) := Lib.hid (by
        rw [rowsV_succ, ext_at, rowsV_congr (hs := gs) (fun i hi => ext_lt hi)]
        exact hown4)
      clear hown hown2 hown3 hown4 hown5 hg3 hgrow4 hnil4 hloc4 N1 N2 N3 HO HQ HR HB hs1 hs3
      go_wp2_with fail
      go_roundg (n - (k + 1))
      case rel => exact ⟨k + 1, _, by omega, by omega, by go_num, HO2, HQ2, HR2, HB2⟩
      case measure => omega
    · have hkR : k = n := by omega
      have t2 : ¬ (k : Int) < (n : Int) := by omega
      clear hk hgg hlt
      subst hkR
      have FIN : Hid (∀ e, e = Ending.returned u5 → NewTabJ k (fun _ => List.replicate k 0) w e wr) := Lib.hid (fun e he => by
        rcases HO.out.2 with ⟨_, h0⟩ | ⟨g, cap, cur, e2, hb, hgg, hcc, _⟩
        · omega
        · subst e2
          subst he
          refine newTabJ hb (Array.getElem?_eq_some_iff.1 hgg).1 (fun i hi => HQ.out i g hi rfl) (fun i hi => ?_) HR.out HB.out (by omega)
          rw [HO.out.cellAt i (by omega)]
          exact rowsV_at hi)
      clear HO HQ HR HB
      go_wp2_with fail
      go_ret
      exact FIN.out _ rfl
end Go.Proofs.Ytligidmkhbcpmab
