/- SortedPlan in the model: what it answers. -/
import Derived.Test.YtligidmkhbcpmabFilM
import Derived.Test.YtligidmkhbcpmabTabH
import Derived.Test.YtligidmkhbcpmabSrtV
namespace Go.Proofs.Ytligidmkhbcpmab
open Go.RowKit
set_option linter.unusedVariables false
theorem oldG_none {w w1 : World} {f : Nat → List Int} (hb : Below w.heap.size w w1) : NewOldB 0 f false w (.returned (.tuple #[.slice (some ⟨w1.heap.size, 0, none⟩) 0 0, .bool false])) (w1.alloc (.cells #[] 22)) :=
  ⟨_, rfl, ⟨⟨_, 0, rfl, Nat.le_refl _, Nat.zero_le _, fun i hi => by omega⟩, Nat.le_refl _⟩, hb.alloc hb.size _⟩
set_option maxRecDepth 100000 in
set_option maxHeartbeats 4000000 in
theorem sortedS (ps qs : List Int) (v u : Value) (w : World) (A : Ali ps qs) (hv : IntsV w w.heap.size v ps) (hu : IntsV w w.heap.size u qs) :
    Calls Try.prog 60 #[v, u] w fun e w' => ∃ x, e = .returned x ∧ OldG w' w.heap.size w'.heap.size x ps.length (soT ps qs) ∧ Below w.heap.size w w' := by
  have EM := Lib.hid (emptyS ps.length w A.p.n1 A.p.n8)
  have FI := Lib.hid (fun w' (hb : Below w.heap.size w w') lo hi go co gs T => fillS ps.length (stS ps qs) (st_ok A) A.p.n1 A.p.n8 w' lo hi go co gs v u T ((hv.below hb).more hb.size) ((hu.below hb).more hb.size))
  have n8 := A.p.n8
  have hl := A.len.symm
  obtain ⟨q1, c1, rfl, _⟩ := hv
  obtain ⟨q2, c2, rfl, _⟩ := hu
  rw [hl] at FI ⊢
  clear hl
  have SO := Lib.hid (show soT ps qs = (alT ps.length (stS ps qs) ps.length).f from rfl)
  have SF := Lib.hid (show (stS ps qs).f = fun _ => List.replicate ps.length 0 from rfl)
  go_enter Try.func60, Try.ntmps60
  go_wp2_with fail
  refine EM.out.mono ?_
  rintro e w1 ⟨go, co, gs, rfl, hco, T1, b1⟩
  have B1 := Lib.hid b1
  have F1 := Lib.hid (FI.out w1 b1 _ _ _ co _ (by rw [SF.out]; exact T1))
  have HC := Lib.hid hco
  clear b1 T1 FI EM hco
  go_wp2_with fail
  refine F1.out.mono ?_
  rintro e w2 ⟨rfl, T2, b2⟩
  have B2 := Lib.hid (B1.out.trans b2)
  have R2 := Lib.hid (show OldG w2 w.heap.size w2.heap.size (.slice (some ⟨go, 0, none⟩) ps.length co) ps.length (soT ps qs) from ⟨by rw [SO.out]; exact (T2.tabV HC.out (by omega)).more T2.room.2.2, Nat.le_refl _⟩)
  clear b2 T2
  go_wp2_with fail
  go_ret
  exact ⟨_, rfl, R2.out, B2.out⟩
set_option maxRecDepth 100000 in
set_option maxHeartbeats 4000000 in
theorem srtS (ps qs : List Int) (v u : Value) (w : World) (hp : ps.length ≤ 1048576) (hq : qs.length ≤ 1048576) (hv : IntsV w w.heap.size v ps) (hu : IntsV w w.heap.size u qs) :
    Calls Try.prog 34 #[v, u] w (NewOldB (rwN ps qs) (soT ps qs) (aliB ps qs) w) := by
  have AL := Lib.hid (aliS ps qs v u w.heap.size w.heap.size w hp hq (Nat.le_refl _) (Nat.le_refl _) hv hu)
  cases ha : aliB ps qs
  · rw [show rwN ps qs = 0 from if_neg (by rw [ha]; decide)]
    rw [ha] at AL
    obtain ⟨q1, c1, rfl, _⟩ := hv
    obtain ⟨q2, c2, rfl, _⟩ := hu
    clear ha
    go_enter Try.func34, Try.ntmps34
    go_wp2_with fail
    refine AL.out.mono ?_
    rintro e w1 ⟨rfl, b1⟩
    have B1 := Lib.hid b1
    clear b1
    go_wp2_with fail
    go_ret2
    exact oldG_none B1.out
  · rw [show rwN ps qs = ps.length from if_pos ha]
    rw [ha] at AL
    have SO := Lib.hid (fun w' (hb : Below w.heap.size w w') => sortedS ps qs v u w' (aliB_iff.1 ha) ((hv.below hb).more hb.size) ((hu.below hb).more hb.size))
    obtain ⟨q1, c1, rfl, _⟩ := hv
    obtain ⟨q2, c2, rfl, _⟩ := hu
    clear ha
    go_enter Try.func34, Try.ntmps34
    go_wp2_with fail
    refine AL.out.mono ?_
    rintro e w1 ⟨rfl, b1⟩
    have B1 := Lib.hid b1
    clear b1
    go_wp2_with fail
    refine (SO.out _ B1.out).mono ?_
    rintro e w2 ⟨x, rfl, o2, b2⟩
    have B2 := bl_upS B1 b2
    have O2 := Lib.hid (show OldG w2 w.heap.size w2.heap.size x ps.length (soT ps qs) from ⟨o2.tabV, o2.room⟩)
    obtain ⟨p, c, rfl, _⟩ := o2.tabV
    clear b2 o2
    go_wp2_with fail
    go_ret2
    exact ⟨_, rfl, O2.out, B2.out⟩
end Go.Proofs.Ytligidmkhbcpmab
