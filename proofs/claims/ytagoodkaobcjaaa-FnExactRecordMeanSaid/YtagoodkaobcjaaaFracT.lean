/- Fractions in the model: sums and products. -/
import Derived.Test.YtagoodkaobcjaaaFracK
import Derived.WalkKit
import Derived.ProofKit
import Derived.Outline
import Derived.Below
import Derived.Lib.Hide
import Derived.WalkSmall
import Derived.WalkSpells
import Derived.WalkLawsBesides
import Derived.RegionTactic
import Derived.ChangeAlike
import Derived.StillTailTactics
import Derived.IntWalk
namespace Go.Proofs.Ytagoodkaobcjaaa
open Go.RowKit
set_option linter.unusedVariables false
set_option maxRecDepth 100000 in
set_option maxHeartbeats 1000000 in
theorem addS (n d m e : Int) (w : World) (hn : -1000000000 ≤ n ∧ n ≤ 1000000000) (hd : 1 ≤ d ∧ d ≤ 1000000) (hm : -1000000000 ≤ m ∧ m ≤ 1000000000) (he : 1 ≤ e ∧ e ≤ 1000000) :
    Calls Try.prog 61 #[.agg #[.int .i64 n, .int .i64 d], .agg #[.int .i64 m, .int .i64 e]] w (Gives (.agg #[.int .i64 (cutN (n * e + m * d) (d * e)), .int .i64 (cutD (n * e + m * d) (d * e))]) w) := by
  have G := Lib.hid (fun w => gcdS d e w (by omega) (by omega))
  have hs := add_same (n := n) (m := m) (d := d) (e := e) (by omega) (by omega)
  have hg := gI_pos (a := d) (b := e) (by omega)
  have hgl : gI d e ≤ e := Int.le_of_dvd (by omega) (gI_dvd_r d e)
  have t1 : e.tdiv (gI d e) = e / gI d e := Int.tdiv_eq_ediv_of_dvd (gI_dvd_r d e)
  have t2 : d.tdiv (gI d e) = d / gI d e := Int.tdiv_eq_ediv_of_dvd (gI_dvd_l d e)
  have x1 : 0 < e / gI d e := Int.ediv_pos_of_pos_of_dvd (by omega) (by omega) (gI_dvd_r d e)
  have x2 : 0 < d / gI d e := Int.ediv_pos_of_pos_of_dvd (by omega) (by omega) (gI_dvd_l d e)
  have x3 : e / gI d e ≤ e := Int.ediv_le_self _ (by omega)
  have x4 : d / gI d e ≤ d := Int.ediv_le_self _ (by omega)
  generalize gI d e = g at *
  generalize e / g = u at *
  generalize d / g = v at *
  have q1 := mul_bd (x := n) (y := u) 1000000000 1000000 (by omega) (by omega)
  have q2 := mul_bd (x := m) (y := v) 1000000000 1000000 (by omega) (by omega)
  have q3 := mul_bd (x := v) (y := e) 1000000 1000000 (by omega) (by omega)
  have q4 := Int.mul_pos x2 (show 0 < e by omega)
  obtain ⟨q1a, q1b⟩ : -1000000000000000 ≤ n * u ∧ n * u ≤ 1000000000000000 := by omega
  obtain ⟨q2a, q2b⟩ : -1000000000000000 ≤ m * v ∧ m * v ≤ 1000000000000000 := by omega
  obtain ⟨q3a, q3b⟩ : -1000000000000 ≤ v * e ∧ v * e ≤ 1000000000000 := by omega
  have C := Lib.hid (fun w => cutS (n * u + m * v) (v * e) w (by omega) (by omega))
  rw [hs.1, hs.2] at C
  generalize cutN (n * e + m * d) (d * e) = N at *
  generalize cutD (n * e + m * d) (d * e) = D at *
  clear q1 q2 q3 hs
  obtain ⟨n1, n2⟩ := hn
  obtain ⟨d1, d2⟩ := hd
  obtain ⟨m1, m2⟩ := hm
  obtain ⟨e1, e2⟩ := he
  have B := blocks3_below w n d m e
  have hsz := blocks3_size w n d m e
  obtain ⟨a0, a1, z0, z1, c0, c1, f0, f1⟩ := cells3 (Below.refl _ (Blocks3 w n d m e))
  go_enter Try.func61, Try.ntmps61
  go_wp2_with fail
  refine (G.out (Blocks3 w n d m e)).mono ?_
  rintro e w1 ⟨rfl, k, hk⟩
  have K : Hid (Below (Blocks3 w n d m e).heap.size (Blocks3 w n d m e) w1) := Lib.hid (by rw [hk]; exact below_drewN (Below.refl _ _) k)
  clear hk a0 a1 z0 z1 c0 c1 f0 f1
  obtain ⟨a0, a1, z0, z1, _, _, _, _⟩ := cells3 K.out
  go_wp2_with fail
  have r0 : ¬ g = 0 := by omega
  have r1 : IntKind.i64.wrap u = u := IntWalk.i64_in _ (by omega)
  have r2 : IntKind.i64.wrap v = v := IntWalk.i64_in _ (by omega)
  have r3 : IntKind.i64.wrap (n * u) = n * u := IntWalk.i64_in _ (by omega)
  have r4 : IntKind.i64.wrap (m * v) = m * v := IntWalk.i64_in _ (by omega)
  have r5 : IntKind.i64.wrap (n * u + m * v) = n * u + m * v := IntWalk.i64_in _ (by omega)
  have r6 : IntKind.i64.wrap (v * e) = v * e := IntWalk.i64_in _ (by omega)
  refine wp_region_still_tail 22 (by kernel_rfl) (by kernel_rfl) ?_
  simp only [List.take_succ_cons, List.take_zero, List.drop_succ_cons, List.drop_zero]
  repeat still_step
  refine wpStill_nil ?_
  clear r0 r1 r2 r3 r4 r5 r6
  change wpList _ _ _ _ _ w1.drew
  go_wp2_with fail
  refine (C.out w1.drew).mono ?_
  rintro e w2 ⟨rfl, b2⟩
  clear a0 a1 z0 z1
  have K2 := K.out.trans ((show Below w1.heap.size w1 w2 from ⟨b2.os, b2.tape, b2.output, b2.size, b2.block⟩).mono K.out.size)
  obtain ⟨_, _, _, _, c0, c1, f0, f1⟩ := cells3 K2
  have BB := Lib.hid (B.trans (K2.mono B.size))
  clear b2 B K2 K
  go_wp2_with fail
  refine bodyPost_ret (v := .agg #[.int .i64 N, .int .i64 D]) (by simp [results, Try.results61, go_sem, c0, c1]) rfl ⟨rfl, ?_⟩
  exact (BB.out.setCell (p := ⟨w.heap.size + 1 + 1, 0, none⟩) (by simp; omega) _).setCell (p := ⟨w.heap.size + 1 + 1, 1, none⟩) (by simp; omega) _
end Go.Proofs.Ytagoodkaobcjaaa
