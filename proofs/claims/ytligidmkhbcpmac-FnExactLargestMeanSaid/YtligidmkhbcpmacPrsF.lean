/- Rows of pairs while they are filled. -/
import Derived.Test.YtligidmkhbcpmacPrs
import Derived.Test.YtligidmkhbcpmacKidSum
namespace Go.Proofs.Ytligidmkhbcpmac
open Go.RowKit
set_option linter.unusedVariables false
/-- The cells of the first k pairs. -/
def prL (A B : Nat → Int) : Nat → List Int
  | 0 => []
  | k + 1 => prL A B k ++ [A k, B k]
theorem prL_len (A B : Nat → Int) (k : Nat) : (prL A B k).length = k * 2 := by
  induction k with
  | zero => rfl
  | succ k ih => rw [prL, List.length_append, ih]; simp; omega
theorem prL_at (A B : Nat → Int) {k j : Nat} (h : j < k) : (prL A B k).getD (j * 2) 0 = A j ∧ (prL A B k).getD (j * 2 + 1) 0 = B j := by
  induction k with
  | zero => omega
  | succ k ih =>
    have hl := prL_len A B k
    rw [prL]
    rcases Nat.lt_or_ge j k with h' | h'
    · rw [getD_app_left (by omega), getD_app_left (by omega)]; exact ih h'
    · obtain rfl : j = k := by omega
      rw [List.getD_eq_getElem?_getD, List.getD_eq_getElem?_getD, List.getElem?_append_right (by omega), List.getElem?_append_right (by omega), hl, Nat.sub_self, show j * 2 + 1 - j * 2 = 1 by omega]
      exact ⟨rfl, rfl⟩
theorem prL_mem {A B : Nat → Int} {P : Int → Prop} : ∀ k, (∀ j, j < k → P (A j) ∧ P (B j)) → ∀ z ∈ prL A B k, P z := by
  intro k
  induction k with
  | zero => intro _ z hz; cases hz
  | succ k ih =>
    intro h z hz
    rw [prL] at hz
    rcases List.mem_append.1 hz with h' | h'
    · exact ih (fun j hj => h j (by omega)) z h'
    · have := h k (by omega)
      simp at h'
      rcases h' with rfl | rfl
      · exact this.1
      · exact this.2
/-- The row while its elements are set. -/
def halfQ (A B : Nat → Int) (n k : Nat) : List Int := prL A B k ++ List.replicate ((n - k) * 2) 0
theorem halfQ_len (A B : Nat → Int) {n k : Nat} (h : k ≤ n) : (halfQ A B n k).length = n * 2 := by
  unfold halfQ; rw [List.length_append, prL_len, List.length_replicate]; omega
theorem halfQ_zero (A B : Nat → Int) (n : Nat) : halfQ A B n 0 = List.replicate (n * 2) 0 := by simp [halfQ, prL]
theorem halfQ_all (A B : Nat → Int) {n k : Nat} (h : n ≤ k) : halfQ A B n k = prL A B k := by
  unfold halfQ; rw [show (n - k) * 2 = 0 by omega]; simp
theorem halfQ_set (A B : Nat → Int) {n k : Nat} (h : k < n) : ((halfQ A B n k).set (k * 2) (A k)).set (k * 2 + 1) (B k) = halfQ A B n (k + 1) := by
  unfold halfQ
  have hl := prL_len A B k
  obtain ⟨m, hm⟩ : ∃ m, (n - k) * 2 = m + 2 := ⟨(n - k) * 2 - 2, by omega⟩
  rw [List.set_append_right _ _ (by omega), hl, Nat.sub_self, hm, show (n - (k + 1)) * 2 = m by omega, List.set_append_right _ _ (by omega), hl, show k * 2 + 1 - k * 2 = 1 by omega, prL, List.append_assoc]
  rfl
theorem toList_madeCells_two (z : Value) (n : Nat) : (madeCells #[z, z] (n * 2)).toList = List.replicate (n * 2) z := by
  apply List.ext_getElem?
  intro j
  by_cases hj : j < n * 2
  · have : j % 2 = 0 ∨ j % 2 = 1 := by omega
    rcases this with h | h <;> simp [madeCells, hj, h]
  · simp [madeCells, hj]
theorem pairInfo : (Try.prog.info? 26).map (fun i => (i.zero, i.size, i.bytes)) = some (some (.agg #[.int .i64 0, .int .i64 0]), 2, 16) := by kernel_rfl
theorem OwnQ.made {w1 : World} {lo g n : Nat} (h : w1.ownsRow lo 26 2 (.slice (some ⟨g, 0, none⟩) n n) n (madeCells (Value.agg #[.int .i64 0, .int .i64 0]).cells (n * 2)).toList) : OwnQ w1 lo w1.heap.size (.slice (some ⟨g, 0, none⟩) n n) n (List.replicate (n * 2) 0) := by
  rw [show (Value.agg #[Value.int .i64 0, Value.int .i64 0]).cells = #[Value.int .i64 0, Value.int .i64 0] from rfl, toList_madeCells_two] at h
  refine ⟨by simp, by rw [List.map_replicate]; exact h, fun q hq => (h.lt q hq).2, Nat.le_refl _, fun z hz => ?_⟩
  rw [List.eq_of_mem_replicate hz]; unfold InI64; omega
theorem OwnQ.set2 {w : World} {lo hi g cap n : Nat} {fs : List Int} (h : OwnQ w lo hi (.slice (some ⟨g, 0, none⟩) n cap) n fs) (j : Nat) {x y : Int} (hx : InI64 x) (hy : InI64 y) :
    OwnQ ((w.setCell ⟨g, j * 2, none⟩ (.int .i64 x)).setCell ⟨g, j * 2 + 1, none⟩ (.int .i64 y)) lo hi (.slice (some ⟨g, 0, none⟩) n cap) n ((fs.set (j * 2) x).set (j * 2 + 1) y) := by
  have h1 := h.row.stored (j * 2) (.int .i64 x)
  have h2 := h1.1.stored (j * 2 + 1) (.int .i64 y)
  refine ⟨by rw [List.length_set, List.length_set]; exact h.len, by rw [List.map_set, List.map_set]; exact h2.1, h.lt, Nat.le_trans h.room (Nat.le_trans h1.2.size h2.2.size), fun z hz => ?_⟩
  rcases List.mem_or_eq_of_mem_set hz with hz | rfl
  · rcases List.mem_or_eq_of_mem_set hz with hz | rfl
    · exact h.in64 z hz
    · exact hx
  · exact hy
theorem OwnQ.empty (w1 : World) (lo : Nat) (h : lo ≤ w1.heap.size) : OwnQ (w1.alloc (.cells #[] 26)) lo (w1.alloc (.cells #[] 26)).heap.size (.slice (some ⟨w1.heap.size, 0, none⟩) 0 0) 0 [] := by
  refine ⟨rfl, ⟨rfl, .inr ⟨w1.heap.size, 0, #[], rfl, h, alloc_heap w1 _, Nat.le_refl _, Nat.zero_le _, rfl, rfl⟩⟩, ?_, Nat.le_refl _, fun z hz => by cases hz⟩
  intro q hq
  simp [Value.ownBlock] at hq
  subst hq
  simp
theorem OwnQ.app {wr w3 : World} {lo n : Nat} {o v' : Value} {fs : List Int} {x y : Int} (h : OwnQ wr lo wr.heap.size o n fs) (hx : InI64 x) (hy : InI64 y)
    (hown : w3.ownsRow lo 26 2 v' (n + 1) (fs.map (.int .i64) ++ [.int .i64 x, .int .i64 y])) : OwnQ w3 lo w3.heap.size v' (n + 1) (fs ++ [x, y]) := by
  refine ⟨by have := h.len; simp; omega, by rw [List.map_append]; exact hown, fun q hq => (hown.lt q hq).2, Nat.le_refl _, fun z hz => ?_⟩
  rcases List.mem_append.1 hz with hz | hz
  · exact h.in64 z hz
  · simp at hz
    rcases hz with rfl | rfl
    · exact hx
    · exact hy
/-- A row in new memory, and whether there is one. -/
def NewQ (n : Nat) (fs : List Int) (w : World) (e : Ending) (w' : World) : Prop := ∃ v, e = .returned v ∧ OwnQ w' w.heap.size w'.heap.size v n fs ∧ Below w.heap.size w w'
def NewQB (n : Nat) (fs : List Int) (ok : Bool) (w : World) (e : Ending) (w' : World) : Prop := ∃ v, e = .returned (.tuple #[v, .bool ok]) ∧ OwnQ w' w.heap.size w'.heap.size v n fs ∧ Below w.heap.size w w'
theorem newQ_empty {w w1 : World} (hb : Below w.heap.size w w1) {g : Nat} (hg : g = w1.heap.size) : NewQB 0 [] false w (.returned (.tuple #[.slice (some ⟨g, 0, none⟩) 0 0, .bool false])) (w1.alloc (.cells #[] 26)) := by
  subst hg; exact ⟨_, rfl, OwnQ.empty w1 w.heap.size hb.size, hb.alloc hb.size _⟩
theorem newQ_back {n : Nat} {fs : List Int} {w w1 w2 : World} {v : Value} (hb : Below w.heap.size w w1) (h : OwnQ w2 w1.heap.size w2.heap.size v n fs) (hb2 : Below w1.heap.size w1 w2) : NewQB n fs true w (.returned (.tuple #[v, .bool true])) w2 :=
  ⟨_, rfl, h.low hb.size, hb.trans (hb2.mono hb.size)⟩
end Go.Proofs.Ytligidmkhbcpmac
