/- Urns in the program: what is valid, numbers that grow, products. -/
import Derived.Test.YtligidmkhbcpmacUrnP
import Derived.Test.YtligidmkhbcpmacMatI
import Derived.Test.YtligidmkhbcpmacRecI
import Derived.Test.YtligidmkhbcpmacRes
import Derived.Test.YtligidmkhbcpmacFracR
import Derived.Test.YtligidmkhbcpmacFracB
import Derived.Deep.RegionHeld3
import Derived.Deep.DeepCutAuto
namespace Go.Proofs.Ytligidmkhbcpmac
open Go.RowKit
set_option linter.unusedVariables false
def urOk (r b x : Int) : Bool := decide (0 ≤ r ∧ r ≤ 20) && decide (0 ≤ b ∧ b ≤ 20) && decide (0 ≤ x ∧ x ≤ 20) && decide (0 < r + b)
def urV (r b x : Int) : Value := if urOk r b x = true then .agg #[.int .i64 r, .int .i64 b, .int .i64 x] else .agg #[.int .i64 0, .int .i64 0, .int .i64 0]
theorem rs3_cells {w w3 : World} (b : Below (w.alloc (.cells #[.int .i64 0, .int .i64 0, .int .i64 0] 121)).heap.size (w.alloc (.cells #[.int .i64 0, .int .i64 0, .int .i64 0] 121)) w3) : (w3.cell? ⟨w.heap.size, 0, none⟩ = some (.int .i64 0) ∧ w3.cell? ⟨w.heap.size, 1, none⟩ = some (.int .i64 0) ∧ w3.cell? ⟨w.heap.size, 2, none⟩ = some (.int .i64 0)) ∧ (w3.frozen? ⟨w.heap.size, 0, none⟩ = false ∧ w3.frozen? ⟨w.heap.size, 1, none⟩ = false ∧ w3.frozen? ⟨w.heap.size, 2, none⟩ = false) := by
  have k0 := (b.block w.heap.size (by simp)).trans (alloc_heap w (.cells #[.int .i64 0, .int .i64 0, .int .i64 0] 121))
  exact ⟨⟨(cell_of_heap (o := 0) k0 rfl).1, (cell_of_heap (o := 1) k0 rfl).1, (cell_of_heap (o := 2) k0 rfl).1⟩, (cell_of_heap (o := 0) k0 rfl).2, (cell_of_heap (o := 1) k0 rfl).2, (cell_of_heap (o := 2) k0 rfl).2⟩
theorem urn_bl0 (w : World) (o1 o2 : Obj) : Below w.heap.size w ((w.alloc o1).alloc o2) := ((Below.refl w.heap.size w).alloc (Nat.le_refl _) o1).alloc (by simp) o2
theorem urn_bl (w : World) (o1 o2 : Obj) (a b c : Value) : Below w.heap.size w (((((w.alloc o1).alloc o2).setCell ⟨w.heap.size, 0, none⟩ a).setCell ⟨w.heap.size, 1, none⟩ b).setCell ⟨w.heap.size, 2, none⟩ c) :=
  (((urn_bl0 w o1 o2).setCell (p := ⟨w.heap.size, 0, none⟩) (Nat.le_refl _) a).setCell (p := ⟨w.heap.size, 1, none⟩) (Nat.le_refl _) b).setCell (p := ⟨w.heap.size, 2, none⟩) (Nat.le_refl _) c
theorem urn_no {r b x : Int} (h : ¬ ((0 ≤ r ∧ r ≤ 20) ∧ (0 ≤ b ∧ b ≤ 20) ∧ (0 ≤ x ∧ x ≤ 20) ∧ 0 < r + b)) : urOk r b x = false ∧ urV r b x = .agg #[.int .i64 0, .int .i64 0, .int .i64 0] := by
  have e : urOk r b x = false := by
    unfold urOk
    rw [← Bool.not_eq_true]
    intro h2
    simp only [Bool.and_eq_true, decide_eq_true_iff] at h2
    exact h ⟨h2.1.1.1, h2.1.1.2, h2.1.2, h2.2⟩
  exact ⟨e, by unfold urV; rw [if_neg (by rw [e]; decide)]⟩
theorem urn_yes {r b x : Int} (h : (0 ≤ r ∧ r ≤ 20) ∧ (0 ≤ b ∧ b ≤ 20) ∧ (0 ≤ x ∧ x ≤ 20) ∧ 0 < r + b) : urOk r b x = true ∧ urV r b x = .agg #[.int .i64 r, .int .i64 b, .int .i64 x] := by
  have e : urOk r b x = true := by
    unfold urOk
    simp only [Bool.and_eq_true, decide_eq_true_iff]
    exact ⟨⟨⟨h.1, h.2.1⟩, h.2.2.1⟩, h.2.2.2⟩
  exact ⟨e, by unfold urV; rw [if_pos e]⟩
set_option maxRecDepth 100000 in
set_option maxHeartbeats 4000000 in
theorem urnOfC (r b x : Int) (w : World) : Calls Try.prog 137 #[.int .i64 r, .int .i64 b, .int .i64 x] w (Gives (.tuple #[urV r b x, .bool (urOk r b x)]) w) := by
  have F1 := Lib.hid (fun w => fromI r 0 20 w)
  have F2 := Lib.hid (fun w => fromI b 0 20 w)
  have F3 := Lib.hid (fun w => fromI x 0 20 w)
  by_cases hr : r = 0
  · subst hr
    by_cases hb : b = 0
    · subst hb
      by_cases h1 : 0 ≤ (0 : Int) ∧ (0 : Int) ≤ 20
      · by_cases h2 : 0 ≤ (0 : Int) ∧ (0 : Int) ≤ 20
        · by_cases h3 : 0 ≤ x ∧ x ≤ 20
          · rw [decide_eq_true h1] at F1
            rw [decide_eq_true h2] at F2
            rw [decide_eq_true h3] at F3
            obtain ⟨y1, y2⟩ := urn_no (r := 0) (b := 0) (x := x) (by omega)
            rw [y1, y2]
            clear y1 y2 h1 h2 h3
            go_enter Try.func137, Try.ntmps137
            go_wp2_with fail
            refine (F1.out _).mono ?_
            rintro e w1 ⟨rfl, rfl⟩
            go_wp2_with fail
            refine (F2.out _).mono ?_
            rintro e w1 ⟨rfl, rfl⟩
            go_wp2_with fail
            refine (F3.out _).mono ?_
            rintro e w1 ⟨rfl, rfl⟩
            go_wp2_with fail
            refine bodyPost_ret (v := .tuple #[.agg #[.int .i64 0, .int .i64 0, .int .i64 0], .bool false]) (by simp [results, Try.results137, go_sem]) rfl ⟨rfl, ?_⟩
            first | exact urn_bl _ _ _ _ _ _ | exact urn_bl0 _ _ _
          · rw [decide_eq_true h1] at F1
            rw [decide_eq_true h2] at F2
            rw [decide_eq_false h3] at F3
            obtain ⟨y1, y2⟩ := urn_no (r := 0) (b := 0) (x := x) (by omega)
            rw [y1, y2]
            clear y1 y2 h1 h2 h3
            go_enter Try.func137, Try.ntmps137
            go_wp2_with fail
            refine (F1.out _).mono ?_
            rintro e w1 ⟨rfl, rfl⟩
            go_wp2_with fail
            refine (F2.out _).mono ?_
            rintro e w1 ⟨rfl, rfl⟩
            go_wp2_with fail
            refine (F3.out _).mono ?_
            rintro e w1 ⟨rfl, rfl⟩
            go_wp2_with fail
            refine bodyPost_ret (v := .tuple #[.agg #[.int .i64 0, .int .i64 0, .int .i64 0], .bool false]) (by simp [results, Try.results137, go_sem]) rfl ⟨rfl, ?_⟩
            first | exact urn_bl _ _ _ _ _ _ | exact urn_bl0 _ _ _
        · omega
      · omega
    · have eb : ((b : Int) == 0) = false := by simpa using hb
      by_cases h1 : 0 ≤ (0 : Int) ∧ (0 : Int) ≤ 20
      · by_cases h2 : 0 ≤ b ∧ b ≤ 20
        · by_cases h3 : 0 ≤ x ∧ x ≤ 20
          · rw [decide_eq_true h1] at F1
            rw [decide_eq_true h2] at F2
            rw [decide_eq_true h3] at F3
            obtain ⟨y1, y2⟩ := urn_yes (r := 0) (b := b) (x := x) (by omega)
            rw [y1, y2]
            clear y1 y2 h1 h2 h3
            go_enter Try.func137, Try.ntmps137
            go_wp2_with fail
            refine (F1.out _).mono ?_
            rintro e w1 ⟨rfl, rfl⟩
            go_wp2_with fail
            refine (F2.out _).mono ?_
            rintro e w1 ⟨rfl, rfl⟩
            go_wp2_with fail
            refine (F3.out _).mono ?_
            rintro e w1 ⟨rfl, rfl⟩
            go_wp2_with fail
            refine bodyPost_ret (v := .tuple #[.agg #[.int .i64 0, .int .i64 b, .int .i64 x], .bool true]) (by simp [results, Try.results137, go_sem]) rfl ⟨rfl, ?_⟩
            first | exact urn_bl _ _ _ _ _ _ | exact urn_bl0 _ _ _
          · rw [decide_eq_true h1] at F1
            rw [decide_eq_true h2] at F2
            rw [decide_eq_false h3] at F3
            obtain ⟨y1, y2⟩ := urn_no (r := 0) (b := b) (x := x) (by omega)
            rw [y1, y2]
            clear y1 y2 h1 h2 h3
            go_enter Try.func137, Try.ntmps137
            go_wp2_with fail
            refine (F1.out _).mono ?_
            rintro e w1 ⟨rfl, rfl⟩
            go_wp2_with fail
            refine (F2.out _).mono ?_
            rintro e w1 ⟨rfl, rfl⟩
            go_wp2_with fail
            refine (F3.out _).mono ?_
            rintro e w1 ⟨rfl, rfl⟩
            go_wp2_with fail
            refine bodyPost_ret (v := .tuple #[.agg #[.int .i64 0, .int .i64 0, .int .i64 0], .bool false]) (by simp [results, Try.results137, go_sem]) rfl ⟨rfl, ?_⟩
            first | exact urn_bl _ _ _ _ _ _ | exact urn_bl0 _ _ _
        · rw [decide_eq_true h1] at F1
          rw [decide_eq_false h2] at F2
          obtain ⟨y1, y2⟩ := urn_no (r := 0) (b := b) (x := x) (by omega)
          rw [y1, y2]
          clear y1 y2 h1 h2
          go_enter Try.func137, Try.ntmps137
          go_wp2_with fail
          refine (F1.out _).mono ?_
          rintro e w1 ⟨rfl, rfl⟩
          go_wp2_with fail
          refine (F2.out _).mono ?_
          rintro e w1 ⟨rfl, rfl⟩
          go_wp2_with fail
          refine bodyPost_ret (v := .tuple #[.agg #[.int .i64 0, .int .i64 0, .int .i64 0], .bool false]) (by simp [results, Try.results137, go_sem]) rfl ⟨rfl, ?_⟩
          first | exact urn_bl _ _ _ _ _ _ | exact urn_bl0 _ _ _
      · omega
  · have er : ((r : Int) == 0) = false := by simpa using hr
    by_cases hb : b = 0
    · subst hb
      by_cases h1 : 0 ≤ r ∧ r ≤ 20
      · by_cases h2 : 0 ≤ (0 : Int) ∧ (0 : Int) ≤ 20
        · by_cases h3 : 0 ≤ x ∧ x ≤ 20
          · rw [decide_eq_true h1] at F1
            rw [decide_eq_true h2] at F2
            rw [decide_eq_true h3] at F3
            obtain ⟨y1, y2⟩ := urn_yes (r := r) (b := 0) (x := x) (by omega)
            rw [y1, y2]
            clear y1 y2 h1 h2 h3
            go_enter Try.func137, Try.ntmps137
            go_wp2_with fail
            refine (F1.out _).mono ?_
            rintro e w1 ⟨rfl, rfl⟩
            go_wp2_with fail
            refine (F2.out _).mono ?_
            rintro e w1 ⟨rfl, rfl⟩
            go_wp2_with fail
            refine (F3.out _).mono ?_
            rintro e w1 ⟨rfl, rfl⟩
            go_wp2_with fail
            refine bodyPost_ret (v := .tuple #[.agg #[.int .i64 r, .int .i64 0, .int .i64 x], .bool true]) (by simp [results, Try.results137, go_sem]) rfl ⟨rfl, ?_⟩
            first | exact urn_bl _ _ _ _ _ _ | exact urn_bl0 _ _ _
          · rw [decide_eq_true h1] at F1
            rw [decide_eq_true h2] at F2
            rw [decide_eq_false h3] at F3
            obtain ⟨y1, y2⟩ := urn_no (r := r) (b := 0) (x := x) (by omega)
            rw [y1, y2]
            clear y1 y2 h1 h2 h3
            go_enter Try.func137, Try.ntmps137
            go_wp2_with fail
            refine (F1.out _).mono ?_
            rintro e w1 ⟨rfl, rfl⟩
            go_wp2_with fail
            refine (F2.out _).mono ?_
            rintro e w1 ⟨rfl, rfl⟩
            go_wp2_with fail
            refine (F3.out _).mono ?_
            rintro e w1 ⟨rfl, rfl⟩
            go_wp2_with fail
            refine bodyPost_ret (v := .tuple #[.agg #[.int .i64 0, .int .i64 0, .int .i64 0], .bool false]) (by simp [results, Try.results137, go_sem]) rfl ⟨rfl, ?_⟩
            first | exact urn_bl _ _ _ _ _ _ | exact urn_bl0 _ _ _
        · omega
      · rw [decide_eq_false h1] at F1
        obtain ⟨y1, y2⟩ := urn_no (r := r) (b := 0) (x := x) (by omega)
        rw [y1, y2]
        clear y1 y2 h1
        go_enter Try.func137, Try.ntmps137
        go_wp2_with fail
        refine (F1.out _).mono ?_
        rintro e w1 ⟨rfl, rfl⟩
        go_wp2_with fail
        refine bodyPost_ret (v := .tuple #[.agg #[.int .i64 0, .int .i64 0, .int .i64 0], .bool false]) (by simp [results, Try.results137, go_sem]) rfl ⟨rfl, ?_⟩
        first | exact urn_bl _ _ _ _ _ _ | exact urn_bl0 _ _ _
    · have eb : ((b : Int) == 0) = false := by simpa using hb
      by_cases h1 : 0 ≤ r ∧ r ≤ 20
      · by_cases h2 : 0 ≤ b ∧ b ≤ 20
        · by_cases h3 : 0 ≤ x ∧ x ≤ 20
          · rw [decide_eq_true h1] at F1
            rw [decide_eq_true h2] at F2
            rw [decide_eq_true h3] at F3
            obtain ⟨y1, y2⟩ := urn_yes (r := r) (b := b) (x := x) (by omega)
            rw [y1, y2]
            clear y1 y2 h1 h2 h3
            go_enter Try.func137, Try.ntmps137
            go_wp2_with fail
            refine (F1.out _).mono ?_
            rintro e w1 ⟨rfl, rfl⟩
            go_wp2_with fail
            refine (F2.out _).mono ?_
            rintro e w1 ⟨rfl, rfl⟩
            go_wp2_with fail
            refine (F3.out _).mono ?_
            rintro e w1 ⟨rfl, rfl⟩
            go_wp2_with fail
            refine bodyPost_ret (v := .tuple #[.agg #[.int .i64 r, .int .i64 b, .int .i64 x], .bool true]) (by simp [results, Try.results137, go_sem]) rfl ⟨rfl, ?_⟩
            first | exact urn_bl _ _ _ _ _ _ | exact urn_bl0 _ _ _
          · rw [decide_eq_true h1] at F1
            rw [decide_eq_true h2] at F2
            rw [decide_eq_false h3] at F3
            obtain ⟨y1, y2⟩ := urn_no (r := r) (b := b) (x := x) (by omega)
            rw [y1, y2]
            clear y1 y2 h1 h2 h3
            go_enter Try.func137, Try.ntmps137
            go_wp2_with fail
            refine (F1.out _).mono ?_
            rintro e w1 ⟨rfl, rfl⟩
            go_wp2_with fail
            refine (F2.out _).mono ?_
            rintro e w1 ⟨rfl, rfl⟩
            go_wp2_with fail
            refine (F3.out _).mono ?_
            rintro e w1 ⟨rfl, rfl⟩
            go_wp2_with fail
            refine bodyPost_ret (v := .tuple #[.agg #[.int .i64 0, .int .i64 0, .int .i64 0], .bool false]) (by simp [results, Try.results137, go_sem]) rfl ⟨rfl, ?_⟩
            first | exact urn_bl _ _ _ _ _ _ | exact urn_bl0 _ _ _
        · rw [decide_eq_true h1] at F1
          rw [decide_eq_false h2] at F2
          obtain ⟨y1, y2⟩ := urn_no (r := r) (b := b) (x := x) (by omega)
          rw [y1, y2]
          clear y1 y2 h1 h2
          go_enter Try.func137, Try.ntmps137
          go_wp2_with fail
          refine (F1.out _).mono ?_
          rintro e w1 ⟨rfl, rfl⟩
          go_wp2_with fail
          refine (F2.out _).mono ?_
          rintro e w1 ⟨rfl, rfl⟩
          go_wp2_with fail
          refine bodyPost_ret (v := .tuple #[.agg #[.int .i64 0, .int .i64 0, .int .i64 0], .bool false]) (by simp [results, Try.results137, go_sem]) rfl ⟨rfl, ?_⟩
          first | exact urn_bl _ _ _ _ _ _ | exact urn_bl0 _ _ _
      · rw [decide_eq_false h1] at F1
        obtain ⟨y1, y2⟩ := urn_no (r := r) (b := b) (x := x) (by omega)
        rw [y1, y2]
        clear y1 y2 h1
        go_enter Try.func137, Try.ntmps137
        go_wp2_with fail
        refine (F1.out _).mono ?_
        rintro e w1 ⟨rfl, rfl⟩
        go_wp2_with fail
        refine bodyPost_ret (v := .tuple #[.agg #[.int .i64 0, .int .i64 0, .int .i64 0], .bool false]) (by simp [results, Try.results137, go_sem]) rfl ⟨rfl, ?_⟩
        first | exact urn_bl _ _ _ _ _ _ | exact urn_bl0 _ _ _
end Go.Proofs.Ytligidmkhbcpmac
