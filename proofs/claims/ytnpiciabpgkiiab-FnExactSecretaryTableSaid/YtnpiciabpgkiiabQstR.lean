/- RankMean in the program. -/
import Derived.Test.YtnpiciabpgkiiabQstD
namespace Go.Proofs.Ytnpiciabpgkiiab
open Go.RowKit Go.Maps
set_option linter.unusedVariables false
theorem QPost.mono {v : Value} {w : World} {b m m' : Nat} {G : Value → Int × Int} {e : Ending} {w' : World} (h : QPost v w b m G e w') (hm : m ≤ m') : QPost v w b m' G e w' := by
  obtain ⟨he, k, hk, hM, ha⟩ := h
  exact ⟨he, k, Nat.le_trans hk hm, hM, ha⟩
/-- The greatest mean from a state on. -/
theorem bestC (T : QTab) (k n : Nat) (TQ : TypeId) (FE : FuncId) (Q : Quest T k n TQ FE) (b : Nat) : ∀ (d c r m : Nat) (w : World), c + d = n → r ≤ c → MapQ 85 w b m (GQ T k n) → m + 12 ^ d ≤ maxLen →
    Calls Try.prog 65 #[srcV TQ n b, .agg #[.int .i64 c, .int .i64 r]] w (QPost (.agg #[.int .i64 (T.v k n c r).1, .int .i64 (T.v k n c r).2]) w b (m + 12 ^ d) (GQ T k n)) := by
  intro d
  induction d with
  | zero =>
    intro c r m w hcd hr hm hroom
    obtain rfl : c = n := by omega
    exact bestE T k c r TQ FE Q hr b m w hm hroom
  | succ d ih =>
    intro c r m w hcd hr hm hroom
    have h10 := Q.n10
    have hX : (c + 1) * 12 ^ d + 1 ≤ 12 ^ (d + 1) := by
      have h1 : (c + 1) * 12 ^ d ≤ 10 * 12 ^ d := Nat.mul_le_mul_right _ (by omega)
      have h2 : 1 ≤ 12 ^ d := Nat.pow_pos (by decide)
      rw [Nat.pow_succ]
      omega
    refine (bestS T k n c r TQ FE Q (by omega) hr b m (12 ^ d) w hm (by omega) (fun r' m' w' hr' hm' hroom' => ?_)).mono (fun e w' h => h.mono (by omega))
    have := ih (c + 1) r' m' w' (by omega) hr' hm' hroom'
    rw [show (((c + 1 : Nat)) : Int) = (c : Int) + 1 by omega] at this
    exact this
theorem pow12 {d : Nat} (h : d ≤ 10) : 12 ^ d ≤ 100000000000 :=
  Nat.le_trans (Nat.pow_le_pow_right (by decide) h) (by decide)
theorem questRank {n : Nat} (h1 : 1 ≤ n) (h2 : n ≤ 10) : Quest qT2 2 n 90 152 where
  ok := q2Ok h1 h2
  n1 := h1
  n10 := h2
  m1 := fun _ _ => by kernel_rfl
  m2 := fun _ _ => by kernel_rfl
  eg := enters_of Try.func152 (by kernel_rfl) rfl
  en := fun c r w hc hr => ⟨_, _, _, endR n c r w ⟨h1, h2⟩ hc hr, fun h => by
    have hc0 : ¬ c = 0 := by have := of_decide_eq_true h; omega
    unfold qEnd; rw [if_neg (by decide), if_neg hc0], fun h => by
    have hc0 : c = 0 := by have := of_decide_eq_false h; omega
    unfold qEnd; rw [if_neg (by decide), if_pos hc0]⟩
set_option maxRecDepth 100000 in
set_option maxHeartbeats 2000000 in
theorem searchC (TQ : TypeId) (v : Value) (G : Value → Int × Int) (w : World) :
    Calls Try.prog 64 #[.iface TQ v] w fun e w' => ∃ b, e = .returned (.agg #[.iface TQ v, .map (some b)]) ∧ MapQ 85 w' b 0 G ∧ Below w.heap.size w w' ∧ w.heap.size ≤ b := by
  have hmm := @run_makeMap Try.prog
  obtain ⟨wa, hwa⟩ : ∃ wa, wa = w.alloc (.cells #[.nilIface, .map none] 82) := ⟨_, rfl⟩
  have KA : wa.heap[w.heap.size]? = some (.cells #[.nilIface, .map none] 82 (0, 0)) := by rw [hwa]; exact alloc_heap w _
  have BA : Below w.heap.size w wa := by rw [hwa]; exact (Below.refl w.heap.size w).alloc (Nat.le_refl _) _
  have SA : wa.heap.size = w.heap.size + 1 := by rw [hwa]; simp
  have KB : (wa.alloc (.map #[] 0)).heap[w.heap.size]? = some (.cells #[.nilIface, .map none] 82 (0, 0)) := (((Below.refl wa.heap.size wa).alloc (Nat.le_refl _) _).block w.heap.size (by omega)).trans KA
  have KM := MapQ.made 85 wa G
  rw [SA] at KM
  have BB := Lib.hid (BA.alloc BA.size (.map #[] 0))
  obtain ⟨x0, f0⟩ := cell_of_heap (o := 0) KB rfl
  obtain ⟨x1, f1⟩ := cell_of_heap (o := 1) KB rfl
  have x0' : (wa.alloc (.map #[] 0)).cell? ⟨w.heap.size, 0, none⟩ = some .nilIface := x0
  have x1' : (wa.alloc (.map #[] 0)).cell? ⟨w.heap.size, 1, none⟩ = some (.map none) := x1
  clear KA KB x0 x1
  go_enter Try.func64, Try.ntmps64
  go_upto_region 1 with fail
  rw [← hwa]
  clear hwa
  generalize hwb : wa.alloc (.map #[] 0) = wb at *
  go_wp2_with fail
  first
    | (rw [hwb]; go_wp2_with fail)
    | skip
  refine bodyPost_ret (v := .agg #[.iface TQ v, .map (some (w.heap.size + 1))]) (by simp [results, Try.results64, go_sem, x0', x1']) rfl ⟨w.heap.size + 1, rfl, ?_, ?_, by omega⟩
  · exact (KM.set (by omega)).set (by omega)
  · exact (BB.out.setCell (p := ⟨w.heap.size, 0, none⟩) (Nat.le_refl _) _).setCell (p := ⟨w.heap.size, 1, none⟩) (Nat.le_refl _) _
end Go.Proofs.Ytnpiciabpgkiiab
