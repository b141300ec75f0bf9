/- Fractions in the model: lowest terms, kept if they are a fraction. -/
import Derived.Test.YtbpelmpipkkonabFracS
import Derived.WalkKit
import Derived.ProofKit
import Derived.Outline
import Derived.Below
import Derived.Lib.Hide
import Derived.WalkSmall
import Derived.WalkSpells
import Derived.WalkLawsBesides
import Derived.RegionTactic
import Derived.ChangeAlike
namespace Go.Proofs.Ytbpelmpipkkonab
open Go.RowKit
set_option linter.unusedVariables false
theorem pair_set (w : World) (t : TypeId) (a b x y : Value) (k : Nat) :
    (((w.alloc (.cells #[a, b] t)).drewN k).setCell ⟨w.heap.size, 0, none⟩ x).setCell ⟨w.heap.size, 1, none⟩ y = (w.alloc (.cells #[x, y] t)).drewN k := by
  have h1 : ((w.alloc (.cells #[a, b] t)).setCell ⟨w.heap.size, 0, none⟩ x).setCell ⟨w.heap.size, 1, none⟩ y = w.alloc (.cells #[x, y] t) := by
    rw [World.setCell_alloc_at _ _ _ _ _ rfl, World.setCell_alloc_at _ _ _ _ _ rfl]; rfl
  exact congrArg (fun u : World => u.drewN k) h1
/-- Lowest terms lie in one new block. -/
def CutEnd (a b : Int) (w : World) (e : Ending) (w' : World) : Prop := e = .returned (.agg #[.int .i64 (cutN a b), .int .i64 (cutD a b)]) ∧ ∃ k, w' = (w.alloc (.cells #[.int .i64 (cutN a b), .int .i64 (cutD a b)] 42)).drewN k
set_option maxHeartbeats 1000000 in
theorem cutS_exact (a b : Int) (w : World) (ha : -4000000000000000000 ≤ a ∧ a ≤ 4000000000000000000) (hb : 0 < b ∧ b ≤ 4000000000000000000) :
    Calls Try.prog 70 #[.int .i64 a, .int .i64 b] w (CutEnd a b w) := by
  have A := Lib.hid (fun w => absS a w (by omega))
  have G := Lib.hid (fun w => gcdS (a.natAbs : Int) b w (by omega) (by omega))
  rw [gI_abs] at G
  have hg := gI_pos (a := a) (b := b) (by omega)
  have hn := tdiv_cutN (a := a) (b := b) (by omega)
  have hd := tdiv_cutD (a := a) (b := b) (by omega)
  have nb := abs_cutN (a := a) (b := b) 4000000000000000000 ha (by omega)
  have db := cutD_le (a := a) hb.1
  have dp := cutD_pos (a := a) hb.1
  have hgl : gI a b ≤ b := Int.le_of_dvd hb.1 (gI_dvd_r a b)
  generalize (a.natAbs : Int) = na at *
  obtain ⟨N, hN⟩ : ∃ N, N = cutN a b := ⟨_, rfl⟩
  obtain ⟨D, hD⟩ : ∃ D, D = cutD a b := ⟨_, rfl⟩
  rw [← hN] at hn nb
  rw [← hD] at hd db dp
  have HN := Lib.hid hN
  have HD := Lib.hid hD
  clear hN hD
  generalize gI a b = g at *
  obtain ⟨ha1, ha2⟩ := ha
  obtain ⟨hb1, hb2⟩ := hb
  obtain ⟨nb1, nb2⟩ := nb
  have B1 := (Below.refl w.heap.size w).alloc (Nat.le_refl _) (.cells #[.int .i64 0, .int .i64 0] 42)
  go_enter Try.func70, Try.ntmps70
  go_wp2_with fail
  refine (A.out _).mono ?_
  rintro e w1 ⟨rfl, rfl⟩
  go_wp2_with fail
  refine (G.out _).mono ?_
  rintro e w1 ⟨rfl, n, rfl⟩
  go_wp2_with fail
  go_region
  go_wp2_with fail
  refine bodyPost_ret (v := .agg #[.int .i64 N, .int .i64 D]) (by simp [results, Try.results70, go_sem]) rfl ⟨by rw [HN.out, HD.out], n + 1, ?_⟩
  rw [← HN.out, ← HD.out]
  exact pair_set w _ _ _ _ _ _
theorem cutS (a b : Int) (w : World) (ha : -4000000000000000000 ≤ a ∧ a ≤ 4000000000000000000) (hb : 0 < b ∧ b ≤ 4000000000000000000) :
    Calls Try.prog 70 #[.int .i64 a, .int .i64 b] w (Gives (.agg #[.int .i64 (cutN a b), .int .i64 (cutD a b)]) w) :=
  (cutS_exact a b w ha hb).mono fun _ _ ⟨he, k, hw⟩ => ⟨he, by rw [hw]; exact below_drewN ((Below.refl _ _).alloc (Nat.le_refl _) _) k⟩
set_option maxHeartbeats 1000000 in
theorem keptS_yes (n d : Int) (w : World) (h : isFr n d = true) :
    Calls Try.prog 92 #[.agg #[.int .i64 n, .int .i64 d]] w (Gives (.tuple #[.agg #[.int .i64 n, .int .i64 d], .bool true]) w) := by
  have F := Lib.hid (fun w => fracS n d w)
  rw [h] at F
  clear h
  have B2 := ((Below.refl w.heap.size w).alloc (Nat.le_refl _) (.cells #[.int .i64 n, .int .i64 d] 42)).alloc (by simp) (.cells #[.int .i64 0, .int .i64 0] 42)
  go_enter Try.func92, Try.ntmps92
  go_wp2_with fail
  refine (F.out (Blocks2 w n d 0 0)).mono ?_
  rintro e w1 ⟨rfl, b1⟩
  obtain ⟨x0, x1, c0, c1⟩ := cells2 b1
  have k1 := (b1.block (w.heap.size + 1) (by rw [blocks2_size]; omega)).trans (heap_two w (.cells #[.int .i64 n, .int .i64 d] 42) (.cells #[.int .i64 0, .int .i64 0] 42)).2
  have f0 := (cell_of_heap (o := 0) k1 rfl).2
  have f1 := (cell_of_heap (o := 1) k1 rfl).2
  have BB := Lib.hid ((blocks2_below w n d 0 0).trans (b1.mono (blocks2_below w n d 0 0).size))
  clear b1 B2 k1
  go_wp2_with fail
  refine bodyPost_ret (v := .tuple #[.agg #[.int .i64 n, .int .i64 d], .bool true]) (by simp [results, Try.results92, go_sem, c0, c1]) rfl ⟨rfl, ?_⟩
  exact (BB.out.setCell (p := ⟨w.heap.size + 1, 0, none⟩) (by simp) _).setCell (p := ⟨w.heap.size + 1, 1, none⟩) (by simp) _
set_option maxHeartbeats 1000000 in
theorem keptS_no (n d : Int) (w : World) (h : isFr n d = false) :
    Calls Try.prog 92 #[.agg #[.int .i64 n, .int .i64 d]] w (Gives zeroP w) := by
  have F := Lib.hid (fun w => fracS n d w)
  rw [h] at F
  clear h
  go_enter Try.func92, Try.ntmps92
  go_wp2_with fail
  refine (F.out (Blocks2 w n d 0 0)).mono ?_
  rintro e w1 ⟨rfl, b1⟩
  obtain ⟨x0, x1, c0, c1⟩ := cells2 b1
  have k1 := (b1.block (w.heap.size + 1) (by rw [blocks2_size]; omega)).trans (heap_two w (.cells #[.int .i64 n, .int .i64 d] 42) (.cells #[.int .i64 0, .int .i64 0] 42)).2
  have f0 := (cell_of_heap (o := 0) k1 rfl).2
  have f1 := (cell_of_heap (o := 1) k1 rfl).2
  have BB := Lib.hid ((blocks2_below w n d 0 0).trans (b1.mono (blocks2_below w n d 0 0).size))
  clear b1 k1
  go_wp2_with fail
  refine bodyPost_ret (v := .tuple #[.agg #[.int .i64 0, .int .i64 0], .bool false]) (by simp [results, Try.results92, go_sem, c0, c1]) rfl ⟨rfl, ?_⟩
  exact (BB.out.setCell (p := ⟨w.heap.size + 1, 0, none⟩) (by simp) _).setCell (p := ⟨w.heap.size + 1, 1, none⟩) (by simp) _
/-- What is kept of lowest terms. -/
theorem keptS_cut {a b : Int} (w : World) (hb : 0 < b) :
    Calls Try.prog 92 #[.agg #[.int .i64 (cutN a b), .int .i64 (cutD a b)]] w (Gives (keptV (cutN a b) (cutD a b)) w) := by
  have h := isFr_cut (a := a) hb
  unfold keptV
  cases hi : inB (cutN a b) (cutD a b)
  · rw [hi] at h; exact keptS_no _ _ w h
  · rw [hi] at h; exact keptS_yes _ _ w h
end Go.Proofs.Ytbpelmpipkkonab
