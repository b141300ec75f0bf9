/- Fractions in the model: lowest terms. -/
import Derived.Test.YtligidmkhbcpmacFracS
import Derived.WalkKit
import Derived.ProofKit
import Derived.Outline
import Derived.Below
import Derived.Lib.Hide
import Derived.WalkSmall
import Derived.WalkSpells
import Derived.WalkLawsBesides
import Derived.RegionTactic
import Derived.ChangeAlike
namespace Go.Proofs.Ytligidmkhbcpmac
open Go.RowKit
set_option linter.unusedVariables false
theorem pair_set (w : World) (t : TypeId) (a b x y : Value) (k : Nat) :
    (((w.alloc (.cells #[a, b] t)).drewN k).setCell ⟨w.heap.size, 0, none⟩ x).setCell ⟨w.heap.size, 1, none⟩ y = (w.alloc (.cells #[x, y] t)).drewN k := by
  have h1 : ((w.alloc (.cells #[a, b] t)).setCell ⟨w.heap.size, 0, none⟩ x).setCell ⟨w.heap.size, 1, none⟩ y = w.alloc (.cells #[x, y] t) := by
    rw [World.setCell_alloc_at _ _ _ _ _ rfl, World.setCell_alloc_at _ _ _ _ _ rfl]; rfl
  exact congrArg (fun u : World => u.drewN k) h1
/-- Lowest terms lie in one new block. -/
def CutEnd (a b : Int) (w : World) (e : Ending) (w' : World) : Prop := e = .returned (.agg #[.int .i64 (cutN a b), .int .i64 (cutD a b)]) ∧ ∃ k, w' = (w.alloc (.cells #[.int .i64 (cutN a b), .int .i64 (cutD a b)] 26)).drewN k
set_option maxHeartbeats 1000000 in
theorem cutS_exact (a b : Int) (w : World) (ha : -4000000000000000000 ≤ a ∧ a ≤ 4000000000000000000) (hb : 0 < b ∧ b ≤ 4000000000000000000) :
    Calls Try.prog 159 #[.int .i64 a, .int .i64 b] w (CutEnd a b w) := by
  have A := Lib.hid (fun w => absS a w (by omega))
  have G := Lib.hid (fun w => gcdS (a.natAbs : Int) b w (by omega) (by omega))
  rw [gI_abs] at G
  have hg := gI_pos (a := a) (b := b) (by omega)
  have hn := tdiv_cutN (a := a) (b := b) (by omega)
  have hd := tdiv_cutD (a := a) (b := b) (by omega)
  have nb := abs_cutN (a := a) (b := b) 4000000000000000000 ha (by omega)
  have db := cutD_le (a := a) hb.1
  have dp := cutD_pos (a := a) hb.1
  have hgl : gI a b ≤ b := Int.le_of_dvd hb.1 (gI_dvd_r a b)
  generalize (a.natAbs : Int) = na at *
  obtain ⟨N, hN⟩ : ∃ N, N = cutN a b := ⟨_, rfl⟩
  obtain ⟨D, hD⟩ : ∃ D, D = cutD a b := ⟨_, rfl⟩
  rw [← hN] at hn nb
  rw [← hD] at hd db dp
  have HN := Lib.hid hN
  have HD := Lib.hid hD
  clear hN hD
  generalize gI a b = g at *
  obtain ⟨ha1, ha2⟩ := ha
  obtain ⟨hb1, hb2⟩ := hb
  obtain ⟨nb1, nb2⟩ := nb
  have B1 := (Below.refl w.heap.size w).alloc (Nat.le_refl _) (.cells #[.int .i64 0, .int .i64 0] 26)
  go_enter Try.func159, Try.ntmps159
  go_wp2_with fail
  refine (A.out _).mono ?_
  rintro e w1 ⟨rfl, rfl⟩
  go_wp2_with fail
  refine (G.out _).mono ?_
  rintro e w1 ⟨rfl, n, rfl⟩
  go_wp2_with fail
  go_region
  go_wp2_with fail
  refine bodyPost_ret (v := .agg #[.int .i64 N, .int .i64 D]) (by simp [results, Try.results159, go_sem]) rfl ⟨by rw [HN.out, HD.out], n + 1, ?_⟩
  rw [← HN.out, ← HD.out]
  exact pair_set w _ _ _ _ _ _
theorem cutS (a b : Int) (w : World) (ha : -4000000000000000000 ≤ a ∧ a ≤ 4000000000000000000) (hb : 0 < b ∧ b ≤ 4000000000000000000) :
    Calls Try.prog 159 #[.int .i64 a, .int .i64 b] w (Gives (.agg #[.int .i64 (cutN a b), .int .i64 (cutD a b)]) w) :=
  (cutS_exact a b w ha hb).mono fun _ _ ⟨he, k, hw⟩ => ⟨he, by rw [hw]; exact below_drewN ((Below.refl _ _).alloc (Nat.le_refl _) _) k⟩
end Go.Proofs.Ytligidmkhbcpmac
