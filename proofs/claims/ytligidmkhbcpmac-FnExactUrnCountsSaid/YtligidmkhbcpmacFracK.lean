/- Fractions in the model: lowest terms, kept if they are a fraction. -/
import Derived.Test.YtligidmkhbcpmacFracC
import Derived.WalkKit
import Derived.ProofKit
import Derived.Outline
import Derived.Below
import Derived.Lib.Hide
import Derived.WalkSmall
import Derived.WalkSpells
import Derived.WalkLawsBesides
import Derived.RegionTactic
import Derived.ChangeAlike
namespace Go.Proofs.Ytligidmkhbcpmac
open Go.RowKit
set_option linter.unusedVariables false
set_option maxHeartbeats 1000000 in
theorem keptS_yes (n d : Int) (w : World) (h : isFr n d = true) :
    Calls Try.prog 209 #[.agg #[.int .i64 n, .int .i64 d]] w (Gives (.tuple #[.agg #[.int .i64 n, .int .i64 d], .bool true]) w) := by
  have F := Lib.hid (fun w => fracS n d w)
  rw [h] at F
  clear h
  have B2 := ((Below.refl w.heap.size w).alloc (Nat.le_refl _) (.cells #[.int .i64 n, .int .i64 d] 26)).alloc (by simp) (.cells #[.int .i64 0, .int .i64 0] 26)
  go_enter Try.func209, Try.ntmps209
  go_wp2_with fail
  refine (F.out (Blocks2 w n d 0 0)).mono ?_
  rintro e w1 ⟨rfl, b1⟩
  obtain ⟨x0, x1, c0, c1⟩ := cells2 b1
  have k1 := (b1.block (w.heap.size + 1) (by rw [blocks2_size]; omega)).trans (heap_two w (.cells #[.int .i64 n, .int .i64 d] 26) (.cells #[.int .i64 0, .int .i64 0] 26)).2
  have f0 := (cell_of_heap (o := 0) k1 rfl).2
  have f1 := (cell_of_heap (o := 1) k1 rfl).2
  have BB := Lib.hid ((blocks2_below w n d 0 0).trans (b1.mono (blocks2_below w n d 0 0).size))
  clear b1 B2 k1
  go_wp2_with fail
  refine bodyPost_ret (v := .tuple #[.agg #[.int .i64 n, .int .i64 d], .bool true]) (by simp [results, Try.results209, go_sem, c0, c1]) rfl ⟨rfl, ?_⟩
  exact (BB.out.setCell (p := ⟨w.heap.size + 1, 0, none⟩) (by simp) _).setCell (p := ⟨w.heap.size + 1, 1, none⟩) (by simp) _
set_option maxHeartbeats 1000000 in
theorem keptS_no (n d : Int) (w : World) (h : isFr n d = false) :
    Calls Try.prog 209 #[.agg #[.int .i64 n, .int .i64 d]] w (Gives zeroP w) := by
  have F := Lib.hid (fun w => fracS n d w)
  rw [h] at F
  clear h
  go_enter Try.func209, Try.ntmps209
  go_wp2_with fail
  refine (F.out (Blocks2 w n d 0 0)).mono ?_
  rintro e w1 ⟨rfl, b1⟩
  obtain ⟨x0, x1, c0, c1⟩ := cells2 b1
  have k1 := (b1.block (w.heap.size + 1) (by rw [blocks2_size]; omega)).trans (heap_two w (.cells #[.int .i64 n, .int .i64 d] 26) (.cells #[.int .i64 0, .int .i64 0] 26)).2
  have f0 := (cell_of_heap (o := 0) k1 rfl).2
  have f1 := (cell_of_heap (o := 1) k1 rfl).2
  have BB := Lib.hid ((blocks2_below w n d 0 0).trans (b1.mono (blocks2_below w n d 0 0).size))
  clear b1 k1
  go_wp2_with fail
  refine bodyPost_ret (v := .tuple #[.agg #[.int .i64 0, .int .i64 0], .bool false]) (by simp [results, Try.results209, go_sem, c0, c1]) rfl ⟨rfl, ?_⟩
  exact (BB.out.setCell (p := ⟨w.heap.size + 1, 0, none⟩) (by simp) _).setCell (p := ⟨w.heap.size + 1, 1, none⟩) (by simp) _
/-- What is kept of lowest terms. -/
theorem keptS_cut {a b : Int} (w : World) (hb : 0 < b) :
    Calls Try.prog 209 #[.agg #[.int .i64 (cutN a b), .int .i64 (cutD a b)]] w (Gives (keptV (cutN a b) (cutD a b)) w) := by
  have h := isFr_cut (a := a) hb
  unfold keptV
  cases hi : inB (cutN a b) (cutD a b)
  · rw [hi] at h; exact keptS_no _ _ w h
  · rw [hi] at h; exact keptS_yes _ _ w h
end Go.Proofs.Ytligidmkhbcpmac
