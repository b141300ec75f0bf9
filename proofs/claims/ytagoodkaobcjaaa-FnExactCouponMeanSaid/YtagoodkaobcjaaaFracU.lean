/- Fractions in the model: products. -/
import Derived.Test.YtagoodkaobcjaaaFracT
import Derived.WalkKit
import Derived.ProofKit
import Derived.Outline
import Derived.Below
import Derived.Lib.Hide
import Derived.WalkSmall
import Derived.WalkSpells
import Derived.WalkLawsBesides
import Derived.Deep.RegionHeld3
import Derived.KernelRfl
namespace Go.Proofs.Ytagoodkaobcjaaa
open Go.RowKit
set_option linter.unusedVariables false
theorem BW_next {W Wc w1 : World} (b1 : Below Wc.heap.size Wc w1) (hA : Below W.heap.size W Wc) : Below W.heap.size W w1 := hA.trans (b1.mono hA.size)
theorem below_al {W w1 : World} (h : Below W.heap.size W w1) (o : Obj) : Below W.heap.size W (w1.alloc o) := h.alloc h.size o
theorem below_st {W w1 : World} {b o : Nat} (h : Below W.heap.size W w1) (hp : W.heap.size ≤ b) (v : Value) : Below W.heap.size W (w1.setCell ⟨b, o, none⟩ v) := h.setCell (p := ⟨b, o, none⟩) hp v
theorem S_of {w W : World} {n d m e : Int} (K : ∀ w1, Below W.heap.size W w1 → Cells3 w w1 n d m e) {w' : World} (h : Below W.heap.size W w') :
    w'.cell? ⟨w.heap.size, 0, none⟩ = some (.int .i64 n) ∧ w'.cell? ⟨w.heap.size, 1, none⟩ = some (.int .i64 d) ∧ w'.cell? ⟨w.heap.size + 1, 0, none⟩ = some (.int .i64 m) ∧ w'.cell? ⟨w.heap.size + 1, 1, none⟩ = some (.int .i64 e) ∧ w'.cell? ⟨w.heap.size + 1 + 1, 0, none⟩ = some (.int .i64 0) ∧ w'.cell? ⟨w.heap.size + 1 + 1, 1, none⟩ = some (.int .i64 0) ∧ w'.frozen? ⟨w.heap.size + 1 + 1, 0, none⟩ = false ∧ w'.frozen? ⟨w.heap.size + 1 + 1, 1, none⟩ = false :=
  ⟨(K _ h).a0, (K _ h).a1, (K _ h).b0, (K _ h).b1, (K _ h).c0, (K _ h).c1, (K _ h).f0, (K _ h).f1⟩
set_option maxHeartbeats 2000000 in
theorem timesS (n d m e : Int) (w : World) (hn : -1000000000 ≤ n ∧ n ≤ 1000000000) (hd : 1 ≤ d ∧ d ≤ 1000000) (hm : -1000000000 ≤ m ∧ m ≤ 1000000000) (he : 1 ≤ e ∧ e ≤ 1000000) (g1 : gI n d = 1) (g2 : gI m e = 1) :
    Calls Try.prog 49 #[.agg #[.int .i64 n, .int .i64 d], .agg #[.int .i64 m, .int .i64 e]] w (Gives (.agg #[.int .i64 (cutN (n * m) (d * e)), .int .i64 (cutD (n * m) (d * e))]) w) := by
  have hs := times_same (n := n) (m := m) (d := d) (e := e) (by omega) (by omega) g1 g2
  have C1 : Hid (∀ w, Calls Try.prog 52 #[.int .i64 n, .int .i64 e] w fun e' w' => e' = .returned (.agg #[.int .i64 (cutN n e), .int .i64 (cutD n e)]) ∧ ∃ k, w' = (w.alloc (.cells #[.int .i64 (cutN n e), .int .i64 (cutD n e)] 32)).drewN k) := Lib.hid (fun w => cutS_exact n e w (by omega) (by omega))
  have C2 : Hid (∀ w, Calls Try.prog 52 #[.int .i64 m, .int .i64 d] w fun e' w' => e' = .returned (.agg #[.int .i64 (cutN m d), .int .i64 (cutD m d)]) ∧ ∃ k, w' = (w.alloc (.cells #[.int .i64 (cutN m d), .int .i64 (cutD m d)] 32)).drewN k) := Lib.hid (fun w => cutS_exact m d w (by omega) (by omega))
  have b1 := abs_cutN (a := n) (b := e) 1000000000 (by omega) (by omega)
  have b2 := abs_cutN (a := m) (b := d) 1000000000 (by omega) (by omega)
  have b3 := cutD_le (a := n) (b := e) (by omega)
  have b4 := cutD_le (a := m) (b := d) (by omega)
  have b5 := cutD_pos (a := n) (b := e) (by omega)
  have b6 := cutD_pos (a := m) (b := d) (by omega)
  rw [hs.1, hs.2]
  clear hs g1 g2
  generalize cutN n e = p1 at *
  generalize cutN m d = p2 at *
  generalize cutD n e = s1 at *
  generalize cutD m d = s2 at *
  have q1 := mul_bd (x := p1) (y := p2) 1000000000 1000000000 (by omega) (by omega)
  have q2 := mul_bd (x := s1) (y := s2) 1000000 1000000 (by omega) (by omega)
  obtain ⟨q1a, q1b⟩ : -1000000000000000000 ≤ p1 * p2 ∧ p1 * p2 ≤ 1000000000000000000 := by omega
  obtain ⟨q2a, q2b⟩ : -1000000000000 ≤ s1 * s2 ∧ s1 * s2 ≤ 1000000000000 := by omega
  clear q1 q2 hn hd hm he b1 b2 b3 b4 b5 b6
  have B := Lib.hid (blocks3_below w n d m e)
  have hsz := blocks3_size w n d m e
  obtain ⟨W, hW⟩ : ∃ W, W = Blocks3 w n d m e := ⟨_, rfl⟩
  have K : Hid (∀ w1, Below W.heap.size W w1 → Cells3 w w1 n d m e) := Lib.hid (by rw [hW]; exact fun w1 h => cells3 h)
  have hsz' : W.heap.size = w.heap.size + 3 := by rw [hW]; exact hsz
  have BW : Hid (Below w.heap.size w W) := by rw [hW]; exact B
  obtain ⟨a0, a1, z0, z1, _, _, _, _⟩ := K.out W (Below.refl _ _)
  clear hsz B
  go_enter Try.func49, Try.ntmps49
  go_wp2_with fail
  change Code.wp _ _ _ _ (Blocks3 w n d m e)
  rw [← hW]
  clear hW
  have N1 := World.new_ne W _ a0
  have N2 := World.new_ne W _ a1
  have N3 := World.new_ne W _ z0
  have N4 := World.new_ne W _ z1
  go_region_held3 (fun w' => w'.cell? ⟨w.heap.size, 0, none⟩ = some (.int .i64 n) ∧ w'.cell? ⟨w.heap.size, 1, none⟩ = some (.int .i64 d) ∧ w'.cell? ⟨w.heap.size + 1, 0, none⟩ = some (.int .i64 m) ∧ w'.cell? ⟨w.heap.size + 1, 1, none⟩ = some (.int .i64 e) ∧ w'.cell? ⟨w.heap.size + 1 + 1, 0, none⟩ = some (.int .i64 0) ∧ w'.cell? ⟨w.heap.size + 1 + 1, 1, none⟩ = some (.int .i64 0) ∧ w'.frozen? ⟨w.heap.size + 1 + 1, 0, none⟩ = false ∧ w'.frozen? ⟨w.heap.size + 1 + 1, 1, none⟩ = false)
    ((refine S_of K.out ?_; (repeat' (first | with_reducible refine below_al ?_ _ | with_reducible refine below_st ?_ ?_ _ | with_reducible refine below_drewN ?_ _ | with_reducible refine below_drew ?_ | with_reducible exact Below.refl _ _)); all_goals (first | omega | (simp; omega) | simp)))
    (first | (go_at_call 52; (first | (with_reducible refine (C1.out _).mono ?_) | (with_reducible refine (C2.out _).mono ?_)); rintro e w1 ⟨rfl, k, rfl⟩))
  clear a0 a1 z0 z1 N1 N2 N3 N4 C1 C2
  all_goals
    rename_i hS
    obtain ⟨_, _, _, _, c0, c1, f0, f1⟩ := hS
    go_wp2_with fail
    refine bodyPost_ret (v := .agg #[.int .i64 (p1 * p2), .int .i64 (s1 * s2)]) (by simp [results, Try.results49, go_sem, *]) rfl ⟨rfl, ?_⟩
    repeat' (first | with_reducible exact BW.out | with_reducible refine below_al ?_ _ | with_reducible refine below_st ?_ ?_ _ | with_reducible refine below_drewN ?_ _ | with_reducible refine below_drew ?_)
    all_goals (first | omega | (simp; omega) | simp)
end Go.Proofs.Ytagoodkaobcjaaa
