/- RankMean in the program. -/
import Derived.Test.YtnpiciabpgkiiabQstR
import Derived.Test.YtnpiciabpgkiiabRnkM
namespace Go.Proofs.Ytnpiciabpgkiiab
open Go.RowKit Go.Maps
set_option linter.unusedVariables false
theorem fromR (x a b : Int) (w : World) : Calls Try.prog 54 #[.int .i64 x, .int .i64 a, .int .i64 b] w fun e w' => e = .returned (.bool (decide (a ≤ x ∧ x ≤ b))) ∧ w = w' := by
  by_cases h1 : a ≤ x
  · by_cases h2 : x ≤ b
    · rw [decide_eq_true ⟨h1, h2⟩]
      go_enter Try.func54, Try.ntmps54
      go_wp2
      go_ret
      exact ⟨rfl, rfl⟩
    · rw [decide_eq_false (fun h => h2 h.2)]
      go_enter Try.func54, Try.ntmps54
      go_wp2
      go_ret
      exact ⟨rfl, rfl⟩
  · rw [decide_eq_false (fun h => h1 h.1)]
    go_enter Try.func54, Try.ntmps54
    go_wp2
    go_ret
    exact ⟨rfl, rfl⟩
def PBox (w : World) (R : Nat) (a b : Int) : Prop := w.heap[R]? = some (.cells #[.int .i64 a, .int .i64 b] 32 (0, 0))
theorem PBox.below {w w1 : World} {R C : Nat} {a b : Int} (h : PBox w R a b) (hb : Below C w w1) (hR : R < C) : PBox w1 R a b := (hb.block R hR).trans h
theorem PBox.lt {w : World} {R : Nat} {a b : Int} (h : PBox w R a b) : R < w.heap.size := by unfold PBox at h; exact (Array.getElem?_eq_some_iff.1 h).1
theorem PBox.cells {w : World} {R : Nat} {a b : Int} (h : PBox w R a b) : w.cell? ⟨R, 0, none⟩ = some (.int .i64 a) ∧ w.cell? ⟨R, 1, none⟩ = some (.int .i64 b) ∧ w.frozen? ⟨R, 0, none⟩ = false ∧ w.frozen? ⟨R, 1, none⟩ = false :=
  ⟨(cell_of_heap (o := 0) h rfl).1, (cell_of_heap (o := 1) h rfl).1, (cell_of_heap (o := 0) h rfl).2, (cell_of_heap (o := 1) h rfl).2⟩
set_option maxRecDepth 100000 in
set_option maxHeartbeats 4000000 in
theorem rankI (n : Int) (w : World) : Calls Try.prog 31 #[.int .i64 n] w (Gives (rkV n) w) := by
  have F := Lib.hid (fun w => fromR n 1 10 w)
  have B0 := Lib.hid (bl_self w (.cells #[.int .i64 0, .int .i64 0] 32))
  have RC := Lib.hid (fun w3 b => rs_cells (w := w) (w3 := w3) b)
  have RF := Lib.hid (fun w3 x y b => rs_fin (w := w) (w3 := w3) (x := x) (y := y) b)
  by_cases h : 1 ≤ n ∧ n ≤ 10
  · rw [decide_eq_true h] at F
    obtain ⟨N, rfl⟩ : ∃ N : Nat, n = N := ⟨n.toNat, by omega⟩
    have hN : N < 11 := by omega
    have hN1 : 1 ≤ N := by omega
    have hp := pow12 (d := N) (by omega)
    rw [show rkV N = .tuple #[.agg #[.int .i64 (rkN N 0).1, .int .i64 (rkN N 0).2], .bool true] from if_pos h]
    rw [← rk8 N hN hN1]
    have SE := Lib.hid (fun w => searchC 90 (.agg #[.int .i64 (N : Int)]) (GQ qT2 2 N) w)
    have BE : Hid (∀ b w, MapQ 85 w b 0 (GQ qT2 2 N) → Calls Try.prog 65 #[.agg #[.iface 90 (.agg #[.int .i64 N]), .map (some b)], .agg #[.int .i64 0, .int .i64 0]] w (QPost (.agg #[.int .i64 (qT2.v 2 N 0 0).1, .int .i64 (qT2.v 2 N 0 0).2]) w b (0 + 12 ^ N) (GQ qT2 2 N))) := Lib.hid (fun b w hM => bestC qT2 2 N _ _ (questRank hN1 (by omega)) b N 0 0 0 w (by omega) (Nat.le_refl _) hM (by unfold maxLen; omega))
    have vb := fr_bd ((q2Ok hN1 (by omega : N ≤ 10)).fv (c := 0) (r := 0) (by omega) (by omega))
    obtain ⟨v1, hv1⟩ : ∃ v1, v1 = (qT2.v 2 N 0 0).1 := ⟨_, rfl⟩
    obtain ⟨v2, hv2⟩ : ∃ v2, v2 = (qT2.v 2 N 0 0).2 := ⟨_, rfl⟩
    rw [← hv1, ← hv2] at BE vb ⊢
    dsimp only
    have W1 : IntKind.i64.wrap (-v1) = -v1 := IntWalk.i64_in _ (by omega)
    clear hv1 hv2 h hp
    obtain ⟨wa, hwa⟩ : ∃ wa, wa = w.alloc (.cells #[.int .i64 0, .int .i64 0] 32) := ⟨_, rfl⟩
    rw [← hwa] at B0 RC RF
    go_enter Try.func31, Try.ntmps31
    go_wp2_with fail
    rw [← hwa]
    clear hwa
    refine (F.out _).mono ?_
    rintro e w1 ⟨rfl, rfl⟩
    go_wp2_with fail
    refine (SE.out _).mono ?_
    rintro e w2 ⟨b, rfl, hM, b2, hb⟩
    have B2 := Lib.hid (B0.out.trans (b2.mono B0.out.size))
    clear b2
    go_wp2_with fail
    refine (BE.out b w2 hM).mono ?_
    rintro e w3 ⟨rfl, m3, hm3, hM3, al3⟩
    have hb2 := hM.lt
    have B3 := Lib.hid (B2.out.trans ((al3.below (by omega)).mono hb))
    have B4 := Lib.hid (B3.out.alloc B3.out.size (.cells #[.int .i64 v1, .int .i64 v2] 32))
    have QN := QBox.new w3 v1 v2
    clear al3 hM3 hM
    obtain ⟨⟨g0, g1⟩, _, _⟩ := QN.cells
    obtain ⟨⟨x0, y0⟩, x1, y1⟩ := RC.out _ B4.out
    go_wp2_with fail
    refine bodyPost_ret (v := .tuple #[.agg #[.int .i64 (-v1), .int .i64 v2], .bool true]) (by simp [results, Try.results31, go_sem, x0, x1]) rfl ⟨rfl, ?_⟩
    exact RF.out _ _ _ B4.out
  · rw [decide_eq_false h] at F
    rw [show rkV n = .tuple #[.agg #[.int .i64 0, .int .i64 0], .bool false] from if_neg h]
    clear h
    go_enter Try.func31, Try.ntmps31
    go_wp2_with fail
    refine (F.out _).mono ?_
    rintro e w1 ⟨rfl, rfl⟩
    go_wp2_with fail
    refine bodyPost_ret (v := .tuple #[.agg #[.int .i64 0, .int .i64 0], .bool false]) (by simp [results, Try.results31, go_sem]) rfl ⟨rfl, ?_⟩
    first | exact RF.out _ _ _ B0.out | exact (Below.refl w.heap.size w).alloc (Nat.le_refl _) _
end Go.Proofs.Ytnpiciabpgkiiab
