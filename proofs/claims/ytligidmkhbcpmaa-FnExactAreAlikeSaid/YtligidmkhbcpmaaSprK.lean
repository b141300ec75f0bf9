/- DistanceOf, IsAbove, EarthDistance, IsWider in the program: what they answer. -/
import Derived.Test.YtligidmkhbcpmaaSprJ
import Derived.Deep.QuietTactic
import Derived.BigQuiet
namespace Go.Proofs.Ytligidmkhbcpmaa
open Go.RowKit
set_option linter.unusedVariables false
set_option maxRecDepth 100000 in
set_option maxHeartbeats 4000000 in
theorem disI (ps qs : List Int) (v u : Value) (w : World) (hp : ps.length ≤ 1048576) (hq : qs.length ≤ 1048576) (hv : IntsV w w.heap.size v ps) (hu : IntsV w w.heap.size u qs) :
    Calls Try.prog 19 #[v, u] w (Gives (disV ps qs) w) := by
  have AL := Lib.hid (aliY ps qs v u w hp hq hv hu)
  unfold aliV at AL
  cases ha : aliB ps qs
  · rw [show disV ps qs = .tuple #[.int .i64 0, .bool false] from if_neg (by rw [ha]; decide)]
    rw [ha] at AL
    obtain ⟨q1, c1, rfl, _⟩ := hv
    obtain ⟨q2, c2, rfl, _⟩ := hu
    clear ha
    generalize (sprB ps && sprB qs) = ok at *
    go_enter Try.func19, Try.ntmps19
    go_wp2_with fail
    refine AL.out.mono ?_
    rintro e w1 ⟨rfl, b1⟩
    have B1 := Lib.hid b1
    clear b1
    go_wp2_with fail
    go_ret2
    exact ⟨rfl, B1.out⟩
  · have A := aliB_iff.1 ha
    have EX := Lib.hid (fun w' (hb : Below w.heap.size w w') => excessY ps qs v u w.heap.size w.heap.size w' A.p.n8 A.len (fun i hi => by have := A.p.bd i hi; omega) (fun i hi => by have := A.q.bd i (by have := A.len; omega); omega) (hv.below hb) (hu.below hb))
    rw [show disV ps qs = .tuple #[.int .i64 (exT ps qs ps.length), .bool true] from if_pos ha]
    rw [ha] at AL
    obtain ⟨q1, c1, rfl, _⟩ := hv
    obtain ⟨q2, c2, rfl, _⟩ := hu
    clear ha A
    generalize exT ps qs ps.length = X at *
    generalize (sprB ps && sprB qs) = ok at *
    go_enter Try.func19, Try.ntmps19
    go_wp2_with fail
    refine AL.out.mono ?_
    rintro e w1 ⟨rfl, b1⟩
    have B1 := Lib.hid b1
    clear b1
    go_wp2_with fail
    refine (EX.out _ B1.out).mono ?_
    rintro e w2 ⟨rfl, rfl⟩
    go_wp2_with fail
    go_ret2
    exact ⟨rfl, B1.out⟩
set_option maxRecDepth 100000 in
set_option maxHeartbeats 4000000 in
theorem abvI (ps qs : List Int) (v u : Value) (w : World) (hp : ps.length ≤ 1048576) (hq : qs.length ≤ 1048576) (hv : IntsV w w.heap.size v ps) (hu : IntsV w w.heap.size u qs) :
    Calls Try.prog 21 #[v, u] w (Gives (abvV ps qs) w) := by
  have AL := Lib.hid (aliY ps qs v u w hp hq hv hu)
  unfold aliV at AL
  cases ha : aliB ps qs
  · rw [show abvV ps qs = .tuple #[.bool false, .bool false] from if_neg (by rw [ha]; decide)]
    rw [ha] at AL
    obtain ⟨q1, c1, rfl, _⟩ := hv
    obtain ⟨q2, c2, rfl, _⟩ := hu
    clear ha
    generalize (sprB ps && sprB qs) = ok at *
    go_enter Try.func21, Try.ntmps21
    go_wp2_with fail
    refine AL.out.mono ?_
    rintro e w1 ⟨rfl, b1⟩
    have B1 := Lib.hid b1
    clear b1
    go_wp2_with fail
    go_ret2
    exact ⟨rfl, B1.out⟩
  · have A := aliB_iff.1 ha
    have TP := Lib.hid (fun w' (hb : Below w.heap.size w w') => totalsY ps v w' A.p.n8 (fun i hi => by have := A.p.bd i hi; omega) ((hv.below hb).more hb.size))
    have TQ := Lib.hid (fun w' (hb : Below w.heap.size w w') => totalsY qs u w' A.q.n8 (fun i hi => by have := A.q.bd i hi; omega) ((hu.below hb).more hb.size))
    have PA := Lib.hid A.p
    have QA := Lib.hid A.q
    have NL := Lib.hid A.len
    have N8 := Lib.hid A.p.n8
    have XP := Lib.hid (fun w' B C x y (hx : IntsV w' B x (totT ps)) (hy : IntsV w' C y (totT qs)) => excessY (totT ps) (totT qs) x y B C w' (by rw [totT_len]; exact A.p.n8) (by rw [totT_len, totT_len]; exact A.len) (fun i hi => by have := totT_bd A.p i; omega) (fun i hi => by have := totT_bd A.q i; omega) hx hy)
    have e9 : (totT ps).length = ps.length := totT_len ps
    rw [e9] at XP
    rw [show abvV ps qs = .tuple #[.bool (abvB ps qs), .bool true] from if_pos ha]
    have R := Lib.hid (show abvB ps qs = decide (exT (totT ps) (totT qs) ps.length = 0) from rfl)
    rw [ha] at AL
    obtain ⟨q1, c1, rfl, _⟩ := hv
    obtain ⟨q2, c2, rfl, _⟩ := hu
    clear ha A e9
    rw [R.out]
    clear R
    generalize exT (totT ps) (totT qs) ps.length = X at *
    generalize (sprB ps && sprB qs) = ok at *
    go_enter Try.func21, Try.ntmps21
    go_wp2_with fail
    refine AL.out.mono ?_
    rintro e w1 ⟨rfl, b1⟩
    have B1 := Lib.hid b1
    clear b1
    go_wp2_with fail
    refine (TP.out _ B1.out).mono ?_
    rintro e w2 ⟨x2, rfl, o2, b2⟩
    have B2 := bl_up' B1 b2
    have O2 := Lib.hid o2
    obtain ⟨qa, ca, rfl, _⟩ := o2.intsV
    clear b2 o2
    go_wp2_with fail
    refine (TQ.out _ B2.out).mono ?_
    rintro e w3 ⟨x3, rfl, o3, b3⟩
    have B3 := bl_up' B2 b3
    have O3 := Lib.hid o3
    have O2' := Lib.hid (O2.out.below b3)
    obtain ⟨qb, cb, rfl, _⟩ := o3.intsV
    clear b3 o3 O2
    go_wp2_with fail
    refine (XP.out _ _ _ _ _ O2'.out.intsV O3.out.intsV).mono ?_
    rintro e w4 ⟨rfl, rfl⟩
    go_wp2_with fail
    go_ret2
    exact ⟨by first | rfl | simp, B3.out⟩
set_option maxRecDepth 100000 in
set_option maxHeartbeats 4000000 in
theorem earI10 (ps qs : List Int) (v u : Value) (w : World) (hp : ps.length ≤ 1048576) (hq : qs.length ≤ 1048576) (hv : IntsV w w.heap.size v ps) (hu : IntsV w w.heap.size u qs) :
    Calls Try.prog 23 #[v, u] w (Gives (earV ps qs) w) := by
  have AL := Lib.hid (aliY ps qs v u w hp hq hv hu)
  unfold aliV at AL
  cases ha : aliB ps qs
  · rw [show earV ps qs = .tuple #[.int .i64 0, .bool false] from if_neg (by rw [ha]; decide)]
    rw [ha] at AL
    obtain ⟨q1, c1, rfl, _⟩ := hv
    obtain ⟨q2, c2, rfl, _⟩ := hu
    clear ha
    generalize (sprB ps && sprB qs) = ok at *
    go_enter Try.func23, Try.ntmps23
    go_wp2_with fail
    refine AL.out.mono ?_
    rintro e w1 ⟨rfl, b1⟩
    have B1 := Lib.hid b1
    clear b1
    go_wp2_with fail
    go_ret2
    exact ⟨rfl, B1.out⟩
  · have A := aliB_iff.1 ha
    have TP := Lib.hid (fun w' (hb : Below w.heap.size w w') => totalsY ps v w' A.p.n8 (fun i hi => by have := A.p.bd i hi; omega) ((hv.below hb).more hb.size))
    have TQ := Lib.hid (fun w' (hb : Below w.heap.size w w') => totalsY qs u w' A.q.n8 (fun i hi => by have := A.q.bd i hi; omega) ((hu.below hb).more hb.size))
    have PA := Lib.hid A.p
    have QA := Lib.hid A.q
    have NL := Lib.hid A.len
    have N8 := Lib.hid A.p.n8
    have XP := Lib.hid (fun w' B C x y (hx : IntsV w' B x (totT ps)) (hy : IntsV w' C y (totT qs)) => excessY (totT ps) (totT qs) x y B C w' (by rw [totT_len]; exact A.p.n8) (by rw [totT_len, totT_len]; exact A.len) (fun i hi => by have := totT_bd A.p i; omega) (fun i hi => by have := totT_bd A.q i; omega) hx hy)
    have e9 : (totT ps).length = ps.length := totT_len ps
    rw [e9] at XP
    have XQ := Lib.hid (fun w' B C x y (hx : IntsV w' B x (totT qs)) (hy : IntsV w' C y (totT ps)) => excessY (totT qs) (totT ps) x y B C w' (by rw [totT_len]; exact A.q.n8) (by rw [totT_len, totT_len]; exact A.len.symm) (fun i hi => by have := totT_bd A.q i; omega) (fun i hi => by have := totT_bd A.p i; omega) hx hy)
    have e8 : (totT qs).length = ps.length := by rw [totT_len]; exact A.len.symm
    rw [e8] at XQ
    have g1 := exT_bd (ps := totT ps) (qs := totT qs) (B := 40) (n := ps.length) (fun i hi => by have := totT_bd A.p i; have := totT_bd A.q i; omega) ps.length (Nat.le_refl _)
    have g2 := exT_bd (ps := totT qs) (qs := totT ps) (B := 40) (n := ps.length) (fun i hi => by have := totT_bd A.p i; have := totT_bd A.q i; omega) ps.length (Nat.le_refl _)
    have g0 := A.p.n8
    rw [show earV ps qs = .tuple #[.int .i64 (eaT ps qs ps.length), .bool true] from if_pos ha, ea_ex A.len ps.length (Nat.le_refl _)]
    rw [ha] at AL
    obtain ⟨q1, c1, rfl, _⟩ := hv
    obtain ⟨q2, c2, rfl, _⟩ := hu
    clear ha A e9 e8
    generalize exT (totT ps) (totT qs) ps.length = X at *
    generalize exT (totT qs) (totT ps) ps.length = Y at *
    have g3 : 0 ≤ X ∧ X ≤ 320 := by omega
    have g4 : 0 ≤ Y ∧ Y ≤ 320 := by omega
    clear g1 g2 g0
    generalize (sprB ps && sprB qs) = ok at *
    go_enter Try.func23, Try.ntmps23
    go_wp2_with fail
    refine AL.out.mono ?_
    rintro e w1 ⟨rfl, b1⟩
    have B1 := Lib.hid b1
    clear b1
    go_wp2_with fail
    refine (TP.out _ B1.out).mono ?_
    rintro e w2 ⟨x2, rfl, o2, b2⟩
    have B2 := bl_up' B1 b2
    have O2 := Lib.hid o2
    obtain ⟨qa, ca, rfl, _⟩ := o2.intsV
    clear b2 o2
    go_wp2_with fail
    refine (TQ.out _ B2.out).mono ?_
    rintro e w3 ⟨x3, rfl, o3, b3⟩
    have B3 := bl_up' B2 b3
    have O3 := Lib.hid o3
    have O2' := Lib.hid (O2.out.below b3)
    obtain ⟨qb, cb, rfl, _⟩ := o3.intsV
    clear b3 o3 O2
    go_wp2_with fail
    refine (XP.out _ _ _ _ _ O2'.out.intsV O3.out.intsV).mono ?_
    rintro e w4 ⟨rfl, rfl⟩
    go_wp2_with fail
    refine (XQ.out _ _ _ _ _ O3.out.intsV O2'.out.intsV).mono ?_
    rintro e w5 ⟨rfl, rfl⟩
    go_wp2_with fail
    go_ret2
    exact ⟨rfl, B3.out⟩
set_option maxRecDepth 100000 in
set_option maxHeartbeats 4000000 in
theorem widI (ps qs : List Int) (v u : Value) (w : World) (hp : ps.length ≤ 1048576) (hq : qs.length ≤ 1048576) (hv : IntsV w w.heap.size v ps) (hu : IntsV w w.heap.size u qs) :
    Calls Try.prog 25 #[v, u] w (Gives (widV ps qs) w) := by
  have AL := Lib.hid (aliY ps qs v u w hp hq hv hu)
  unfold aliV at AL
  cases ha : aliB ps qs
  · rw [show widV ps qs = .tuple #[.bool false, .bool false] from if_neg (by rw [ha]; decide)]
    rw [ha] at AL
    obtain ⟨q1, c1, rfl, _⟩ := hv
    obtain ⟨q2, c2, rfl, _⟩ := hu
    clear ha
    generalize (sprB ps && sprB qs) = ok at *
    go_enter Try.func25, Try.ntmps25
    go_wp2_with fail
    refine AL.out.mono ?_
    rintro e w1 ⟨rfl, b1⟩
    have B1 := Lib.hid b1
    clear b1
    go_wp2_with fail
    go_ret2
    exact ⟨rfl, B1.out⟩
  · have A := aliB_iff.1 ha
    have TP := Lib.hid (fun w' (hb : Below w.heap.size w w') => totalsY ps v w' A.p.n8 (fun i hi => by have := A.p.bd i hi; omega) ((hv.below hb).more hb.size))
    have TQ := Lib.hid (fun w' (hb : Below w.heap.size w w') => totalsY qs u w' A.q.n8 (fun i hi => by have := A.q.bd i hi; omega) ((hu.below hb).more hb.size))
    have PA := Lib.hid A.p
    have QA := Lib.hid A.q
    have NL := Lib.hid A.len
    have N8 := Lib.hid A.p.n8
    have TT := Lib.hid (fun w' zs x (p : Spr zs) (hx : IntsV w' w'.heap.size x (totT zs)) => totalsY (totT zs) x w' (by rw [totT_len]; exact p.n8) (fun i hi => by have := totT_bd p i; omega) hx)
    have XQ := Lib.hid (fun w' B C x y (hx : IntsV w' B x (totT (totT qs))) (hy : IntsV w' C y (totT (totT ps))) => excessY (totT (totT qs)) (totT (totT ps)) x y B C w' (by rw [totT_len, totT_len]; exact A.q.n8) (by rw [totT_len, totT_len, totT_len, totT_len]; exact A.len.symm) (fun i hi => by have := ttT_bd A.q i; omega) (fun i hi => by have := ttT_bd A.p i; omega) hx hy)
    have e8 : (totT (totT qs)).length = ps.length := by rw [totT_len, totT_len]; exact A.len.symm
    have e9 : (totT (totT ps)).length = ps.length := by rw [totT_len, totT_len]
    rw [e8] at XQ
    obtain ⟨j, hj⟩ : ∃ j, ps.length = j + 1 := ⟨ps.length - 1, by have := A.p.n1; omega⟩
    have c1' := tt_at (zs := ps) (i := j) (by omega)
    have c2' := tt_at (zs := qs) (i := j) (by have := A.len; omega)
    rw [← hj] at c1' c2'
    have CP := Lib.hid (fun w' lo hi g n cap (h : OwnV w' lo hi (.slice (some ⟨g, 0, none⟩) n cap) (totT (totT ps))) => show w'.cell? ⟨g, j, none⟩ = some (.int .i64 (ssT ps ps.length)) by rw [h.cellGet (by rw [e9]; omega), c1'])
    have CQ := Lib.hid (fun w' lo hi g n cap (h : OwnV w' lo hi (.slice (some ⟨g, 0, none⟩) n cap) (totT (totT qs))) => show w'.cell? ⟨g, j, none⟩ = some (.int .i64 (ssT qs ps.length)) by rw [h.cellGet (by rw [e8]; omega), c2'])
    have SHP := Lib.hid (fun w' lo hi x (h : OwnV w' lo hi x (totT (totT ps))) => show ∃ g cap, x = .slice (some ⟨g, 0, none⟩) ps.length cap from by
      obtain ⟨g, cap, e, _⟩ := h.shape (by rw [e9]; omega)
      rw [e9] at e; exact ⟨g, cap, e⟩)
    have SHQ := Lib.hid (fun w' lo hi x (h : OwnV w' lo hi x (totT (totT qs))) => show ∃ g cap, x = .slice (some ⟨g, 0, none⟩) ps.length cap from by
      obtain ⟨g, cap, e, _⟩ := h.shape (by rw [e8]; omega)
      rw [e8] at e; exact ⟨g, cap, e⟩)
    have jl : (ps.length : Int) - 1 = (j : Int) := by omega
    have j0 : (0 : Int) ≤ (j : Int) := by omega
    have j1 : (j : Int) < (ps.length : Int) := by omega
    have n8 := A.p.n8
    have HJ := Lib.hid hj
    rw [show widV ps qs = .tuple #[.bool (widB ps qs), .bool true] from if_pos ha]
    have R := Lib.hid (show widB ps qs = (decide (ssT ps ps.length = ssT qs ps.length) && decide (exT (totT (totT qs)) (totT (totT ps)) ps.length = 0)) from rfl)
    rw [ha] at AL
    obtain ⟨q1, c1, rfl, _⟩ := hv
    obtain ⟨q2, c2, rfl, _⟩ := hu
    clear ha A e9 e8 c1' c2' hj
    rw [R.out]
    clear R
    generalize exT (totT (totT qs)) (totT (totT ps)) ps.length = X at *
    generalize ssT ps ps.length = S1 at *
    generalize ssT qs ps.length = S2 at *
    generalize (sprB ps && sprB qs) = ok at *
    by_cases hs : S1 = S2
    · have R2 := Lib.hid (show (decide (S1 = S2) && decide (X = 0)) = decide (X = 0) by rw [decide_eq_true hs, Bool.true_and])
      rw [R2.out]
      clear R2
      subst hs
      have hq1 : ((S1 : Int) == S1) = true := by simp
      go_enter Try.func25, Try.ntmps25
      go_wp2_with fail
      refine AL.out.mono ?_
      rintro e w1 ⟨rfl, b1⟩
      have B1 := Lib.hid b1
      clear b1
      go_wp2_with fail
      refine (TP.out _ B1.out).mono ?_
      rintro e w2 ⟨x2, rfl, o2, b2⟩
      have B2 := bl_up' B1 b2
      have O2 := Lib.hid o2
      obtain ⟨qa, ca, rfl, _⟩ := o2.intsV
      clear b2 o2
      go_wp2_with fail
      refine (TT.out _ ps _ PA.out O2.out.intsV).mono ?_
      rintro e w3 ⟨x3, rfl, o3, b3⟩
      have B3 := bl_up' B2 b3
      have O3 := Lib.hid o3
      obtain ⟨g3, c3, rfl⟩ := SHP.out _ _ _ _ o3
      clear b3 o3 O2
      go_wp2_with fail
      refine (TQ.out _ B3.out).mono ?_
      rintro e w4 ⟨x4, rfl, o4, b4⟩
      have B4 := bl_up' B3 b4
      have O4 := Lib.hid o4
      have O34 := Lib.hid (O3.out.below b4)
      obtain ⟨qb, cb, rfl, _⟩ := o4.intsV
      clear b4 o4 O3
      go_wp2_with fail
      refine (TT.out _ qs _ QA.out O4.out.intsV).mono ?_
      rintro e w5 ⟨x5, rfl, o5, b5⟩
      have B5 := bl_up' B4 b5
      have O5 := Lib.hid o5
      have O35 := Lib.hid (O34.out.below (b5.mono O34.out.room))
      obtain ⟨g5, c5, rfl⟩ := SHQ.out _ _ _ _ o5
      clear b5 o5 O34 O4
      have k1 := CP.out _ _ _ _ _ _ O35.out
      have k2 := CQ.out _ _ _ _ _ _ O5.out
      go_upto_region 6 with fail
      go_quiet ((go_at_call 40; first | exact quiet_left (XQ.out _ _ _ _ _ O5.out.intsV O35.out.intsV) | exact quiet_add_left (XQ.out _ _ _ _ _ O5.out.intsV O35.out.intsV)))
      go_wp2_with fail
      go_ret2
      exact ⟨by first | rfl | simp, below_drewN B5.out _⟩
    · have R2 := Lib.hid (show (decide (S1 = S2) && decide (X = 0)) = false by rw [decide_eq_false hs, Bool.false_and])
      rw [R2.out]
      clear R2
      have hq1 : ((S1 : Int) == S2) = false := by simpa using hs
      go_enter Try.func25, Try.ntmps25
      go_wp2_with fail
      refine AL.out.mono ?_
      rintro e w1 ⟨rfl, b1⟩
      have B1 := Lib.hid b1
      clear b1
      go_wp2_with fail
      refine (TP.out _ B1.out).mono ?_
      rintro e w2 ⟨x2, rfl, o2, b2⟩
      have B2 := bl_up' B1 b2
      have O2 := Lib.hid o2
      obtain ⟨qa, ca, rfl, _⟩ := o2.intsV
      clear b2 o2
      go_wp2_with fail
      refine (TT.out _ ps _ PA.out O2.out.intsV).mono ?_
      rintro e w3 ⟨x3, rfl, o3, b3⟩
      have B3 := bl_up' B2 b3
      have O3 := Lib.hid o3
      obtain ⟨g3, c3, rfl⟩ := SHP.out _ _ _ _ o3
      clear b3 o3 O2
      go_wp2_with fail
      refine (TQ.out _ B3.out).mono ?_
      rintro e w4 ⟨x4, rfl, o4, b4⟩
      have B4 := bl_up' B3 b4
      have O4 := Lib.hid o4
      have O34 := Lib.hid (O3.out.below b4)
      obtain ⟨qb, cb, rfl, _⟩ := o4.intsV
      clear b4 o4 O3
      go_wp2_with fail
      refine (TT.out _ qs _ QA.out O4.out.intsV).mono ?_
      rintro e w5 ⟨x5, rfl, o5, b5⟩
      have B5 := bl_up' B4 b5
      have O5 := Lib.hid o5
      have O35 := Lib.hid (O34.out.below (b5.mono O34.out.room))
      obtain ⟨g5, c5, rfl⟩ := SHQ.out _ _ _ _ o5
      clear b5 o5 O34 O4
      have k1 := CP.out _ _ _ _ _ _ O35.out
      have k2 := CQ.out _ _ _ _ _ _ O5.out
      go_upto_region 6 with fail
      go_quiet (fail)
      go_wp2_with fail
      go_ret2
      exact ⟨by first | rfl | simp, below_drewN B5.out _⟩
end Go.Proofs.Ytligidmkhbcpmaa
