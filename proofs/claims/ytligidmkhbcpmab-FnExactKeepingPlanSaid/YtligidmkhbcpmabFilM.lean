/- Taking units along the edge of what is left, in the model. -/
import Derived.Test.YtligidmkhbcpmabTbiM
import Derived.Test.YtligidmkhbcpmabMovM
import Derived.Deep.QuietTactic
import Derived.BigQuiet
import Derived.Deep.Slices
namespace Go.Proofs.Ytligidmkhbcpmab
open Go.RowKit
open Go.Deep
set_option linter.unusedVariables false
theorem leastY (a b : Int) (w : World) : Calls Try.prog 54 #[.int .i64 a, .int .i64 b] w fun e w' => e = .returned (.int .i64 (min a b)) ∧ w = w' := by
  by_cases h : a < b
  · rw [show min a b = a by omega]
    go_enter Try.func54, Try.ntmps54
    go_wp2
    go_ret
    exact ⟨rfl, rfl⟩
  · rw [show min a b = b by omega]
    go_enter Try.func54, Try.ntmps54
    go_wp2
    go_ret
    exact ⟨rfl, rfl⟩
theorem setAltJ {w : World} {lo hi g cap n : Nat} {zs : List Int} (h : OwnV w lo hi (.slice (some ⟨g, 0, none⟩) n cap) zs) (j : Nat) (v : Value) : Alt lo hi w (w.setCell ⟨g, j, none⟩ v) := by
  obtain rfl := h.norm
  exact Alt.of_grown (h.row.stored j v).2 (fun q hq => by
    injection hq with hq
    subst hq
    exact ⟨(h.row.lt _ rfl).1, h.lt _ rfl⟩)
theorem TabI.setAlt {w : World} {lo hi go n : Nat} {gs : Nat → Nat} {f : Nat → List Int} (h : TabI w lo hi go gs n f) {t : Nat} (ht : t < n) (k : Nat) (x : Value) : Alt lo hi w (w.setCell ⟨gs t, k, none⟩ x) :=
  ⟨rfl, rfl, rfl, by simp [World.setCell], fun i hi hd => by
    have b := h.rows t ht
    have e : i ≠ gs t := by omega
    simp [World.setCell, Array.getElem?_modify, Ne.symm e]⟩
set_option maxRecDepth 100000 in
set_option maxHeartbeats 8000000 in
theorem fillS (n : Nat) (S0 : Shp) (o : ShOk n S0) (hn : 0 < n) (h8 : n ≤ 8) (w : World) (lo hi go co : Nat) (gs : Nat → Nat) (v u : Value) (T : TabI w lo hi go gs n S0.f) (hv : IntsV w w.heap.size v S0.h) (hu : IntsV w w.heap.size u S0.l) :
    Calls Try.prog 55 #[.slice (some ⟨go, 0, none⟩) n co, v, u] w fun e w' => e = .returned (.slice (some ⟨go, 0, none⟩) n co) ∧ TabI w' lo hi go gs n (alT n S0 n).f ∧ Below lo w w' := by
  have OW1 := Lib.hid (ownZ S0.h v w (by rw [o.hl]; exact hn) (by rw [o.hl]; omega) hv)
  have OW2 := Lib.hid (fun w' (hb : Below w.heap.size w w') => ownZ S0.l u w' (by rw [o.ll]; exact hn) (by rw [o.ll]; omega) ((hu.below hb).more hb.size))
  have HL := Lib.hid o.hl
  have LL := Lib.hid o.ll
  have OK := Lib.hid o
  have T0 := Lib.hid T
  obtain ⟨q1, c1, rfl, _⟩ := hv
  obtain ⟨q2, c2, rfl, _⟩ := hu
  clear o T
  rw [HL.out] at OW1 ⊢
  rw [LL.out] at OW2 ⊢
  go_enter Try.func55, Try.ntmps55
  go_wp2_with fail
  refine OW1.out.mono ?_
  rintro e w1 ⟨x1, rfl, o1, b1⟩
  have B1 := Lib.hid b1
  obtain ⟨gl, cl, e1, hg1, hg2⟩ := o1.shape (by rw [HL.out]; exact hn)
  rw [HL.out] at e1
  subst e1
  clear b1
  go_wp2_with fail
  refine (OW2.out _ B1.out).mono ?_
  rintro e w2 ⟨x2, rfl, o2, b2⟩
  obtain ⟨gy, ck, e2, hk1, hk2⟩ := o2.shape (by rw [LL.out]; exact hn)
  rw [LL.out] at e2
  subst e2
  have r0 := T0.out.room
  have s1 := B1.out.size
  have s2 := b2.size
  have O1 := Lib.hid (o1.tight.below (b2.mono (show gl + 1 ≤ w1.heap.size by omega)))
  have O2 := Lib.hid o2.tight
  have D1 : Hid (hi ≤ gl ∧ gl + 1 ≤ gy) := Lib.hid (by omega)
  have T2 := Lib.hid ((T0.out.below (B1.out.mono r0.2.2)).below (b2.mono (by omega)))
  have BB := Lib.hid ((B1.out.trans (b2.mono s1)).mono (show lo ≤ w.heap.size by omega))
  have HLO : Hid (lo ≤ go ∧ go < hi) := Lib.hid ⟨r0.1, r0.2.1⟩
  clear o1 o2 b2 B1 hg1 hg2 hk1 hk2 r0 s1 s2 OW1 OW2 T0
  go_wp2_with fail
  go_loopg [9, 10] (2 * n) (fun gg a b wr => ∃ (i k : Nat) (S : Shp), i ≤ n ∧ k ≤ n ∧ 2 * n - (i + k) ≤ gg ∧ a = .int .i64 i ∧ b = .int .i64 k ∧ Hid (Edg n S0 i k S) ∧ Hid (OwnV wr gl (gl + 1) (.slice (some ⟨gl, 0, none⟩) n cl) S.h) ∧ Hid (OwnV wr gy (gy + 1) (.slice (some ⟨gy, 0, none⟩) n ck) S.l) ∧ Hid (TabI wr lo hi go gs n S.f) ∧ Hid (Below lo w wr))
  case atStart => exact ⟨0, 0, S0, Nat.zero_le _, Nat.zero_le _, by omega, rfl, rfl, Lib.hid (edg_start n S0), O1, O2, T2, BB⟩
  case round =>
    clear O1 O2 T2 BB
    obtain ⟨i, k, S, hi1, hk1, hgg, rfl, rfl, HE, HO1, HO2, HT, HB⟩ := hrel
    by_cases hin : i < n
    · by_cases hkn : k < n
      · have i0 : (0 : Int) ≤ (i : Int) := by omega
        have i1 : (i : Int) < (n : Int) := by omega
        have k0 : (0 : Int) ≤ (k : Int) := by omega
        have k1 : (k : Int) < (n : Int) := by omega
        have oS : ShOk n S := by rw [HE.out.at_]; exact rw_ok (al_ok OK.out i) i k
        have y1 := HO1.out.cellGet (j := i) (by rw [oS.hl]; exact hin)
        have y2 := HO2.out.cellGet (j := k) (by rw [oS.ll]; exact hkn)
        have y3 := HT.out.cell i k hin hkn
        have y4 := HT.out.out i hin
        have f3 := HT.out.thaw i k hin hkn
        have hb := oS.h0 i
        have lb := oS.l0 k
        have fb := oS.f0 i k hin hkn
        have ub := un_bd oS i k
        have TH := Lib.hid (show (tkT i k S).h = S.h.set i (S.h.getD i 0 - unT S i k) from rfl)
        have TL := Lib.hid (show (tkT i k S).l = S.l.set k (S.l.getD k 0 - unT S i k) from rfl)
        have TF := Lib.hid (show (tkT i k S).f = updF S.f i ((S.f i).set k ((S.f i).getD k 0 + unT S i k)) from rfl)
        have LS := Lib.hid (fun w => leastY (S.h.getD i 0) (S.l.getD k 0) w)
        rw [show min (S.h.getD i 0) (S.l.getD k 0) = unT S i k from rfl] at LS
        have DN := Lib.hid (fun h => edg_down OK.out hkn HE.out h)
        have RT := Lib.hid (fun h => edg_right OK.out hin hkn HE.out h)
        have TI := Lib.hid (show (tkT i k S).h.getD i 0 = S.h.getD i 0 - unT S i k by rw [tk_h oS, if_pos ⟨rfl, hin⟩])
        rw [TI.out] at DN RT
        obtain ⟨x, hx⟩ : ∃ x, x = S.h.getD i 0 := ⟨_, rfl⟩
        rw [← hx] at y1 hb fb ub TH LS DN RT TI
        obtain ⟨y, hy⟩ : ∃ x, x = S.l.getD k 0 := ⟨_, rfl⟩
        rw [← hy] at y2 lb ub TL LS
        obtain ⟨z, hz⟩ : ∃ x, x = (S.f i).getD k 0 := ⟨_, rfl⟩
        rw [← hz] at y3 fb TF
        obtain ⟨m, hm⟩ : ∃ x, x = unT S i k := ⟨_, rfl⟩
        rw [← hm] at ub TH TL TF LS DN RT TI
        have XH := Lib.hid hx
        have YH := Lib.hid hy
        have SHL := Lib.hid oS.hl
        have SLL := Lib.hid oS.ll
        have THL := Lib.hid (tk_ok oS i k).hl
        clear hx hy hz hm oS
        go_wp2_with fail
        go_quiet ((go_at_call 54; first | exact quiet_left (LS.out _) | exact quiet_add_left (LS.out _)))
        go_upto_region 4 with fail
        go_region
        obtain ⟨wq, hwq⟩ : ∃ wq, wq = wr.drewN (nq + 1) := ⟨_, rfl⟩
        rw [← hwq]
        have BQ : Below wr.heap.size wr wq := by rw [hwq]; exact below_drewN (Below.refl _ _) _
        have HTq := HT.out.below (BQ.mono HT.out.room.2.2)
        have HO1q := HO1.out.below (BQ.mono HO1.out.room)
        have HO2q := HO2.out.below (BQ.mono HO2.out.room)
        have HBq := HB.out.trans (BQ.mono (by have := HT.out.room; have := HLO.out; omega))
        have T3' := HTq.set hin hkn (x := z + m) (by unfold InI64; omega)
        rw [← TF.out] at T3'
        have A3 := HTq.setAlt hin k (.int .i64 (z + m))
        have O13 := Lib.hid (HO1q.alt A3 (by have := D1.out; omega))
        have O23 := Lib.hid (HO2q.alt A3 (by have := D1.out; omega))
        have rl := HT.out.rows i hin
        have B3 := Lib.hid (HBq.setCell (p := ⟨gs i, k, none⟩) rl.1 (.int .i64 (z + m)))
        have T3 := Lib.hid T3'
        clear rl T3' A3 HTq HO1q HO2q HBq BQ hwq HT HO1 HO2 HB y1 y2 y3 y4 f3
        obtain ⟨w3, hw3⟩ : ∃ w3, w3 = wq.setCell ⟨gs i, k, none⟩ (.int .i64 (z + m)) := ⟨_, rfl⟩
        rw [← hw3] at T3 O13 O23 B3 ⊢
        clear hw3
        have z1 := O13.out.cellGet (j := i) (by rw [SHL.out]; exact hin)
        rw [← XH.out] at z1
        have g1 := O13.out.frozenGet i
        have O14 := Lib.hid (O13.out.setAt i (x := x - m) (by unfold InI64; omega))
        rw [← TH.out] at O14
        have A4 := setAltJ O13.out i (.int .i64 (x - m))
        have O24 := Lib.hid (O23.out.alt A4 (by have := D1.out; omega))
        have T4 := Lib.hid (T3.out.alt A4 (by have := D1.out; omega))
        have B4 := Lib.hid (B3.out.setCell (p := ⟨gl, i, none⟩) (by have := D1.out; have := HLO.out; show lo ≤ gl; omega) (.int .i64 (x - m)))
        clear A4
        go_upto_region 6 with fail
        obtain ⟨w4, hw4⟩ : ∃ w4, w4 = w3.setCell ⟨gl, i, none⟩ (.int .i64 (x - m)) := ⟨_, rfl⟩
        rw [← hw4] at T4 O14 O24 B4 ⊢
        clear hw4 z1 g1 O13 O23 T3 B3
        have z2 := O24.out.cellGet (j := k) (by rw [SLL.out]; exact hkn)
        rw [← YH.out] at z2
        have g2 := O24.out.frozenGet k
        have O25 := Lib.hid (O24.out.setAt k (x := y - m) (by unfold InI64; omega))
        rw [← TL.out] at O25
        have A5 := setAltJ O24.out k (.int .i64 (y - m))
        have O15 := Lib.hid (O14.out.alt A5 (by have := D1.out; omega))
        have T5 := Lib.hid (T4.out.alt A5 (by have := D1.out; omega))
        have B5 := Lib.hid (B4.out.setCell (p := ⟨gy, k, none⟩) (by have := D1.out; have := HLO.out; show lo ≤ gy; omega) (.int .i64 (y - m)))
        clear A5
        go_upto_region 7 with fail
        obtain ⟨w5, hw5⟩ : ∃ w5, w5 = w4.setCell ⟨gy, k, none⟩ (.int .i64 (y - m)) := ⟨_, rfl⟩
        rw [← hw5] at T5 O15 O25 B5 ⊢
        clear hw5 z2 g2 O14 O24 T4 B4
        have z3 := O15.out.cellGet (j := i) (by rw [THL.out]; exact hin)
        rw [TI.out] at z3
        by_cases hz : x - m = 0
        · have N := Lib.hid (DN.out hz)
          have hzb : ((x - m : Int) == 0) = true := by rw [beq_iff_eq]; exact hz
          obtain ⟨d, hd⟩ : ∃ d, d = x - m := ⟨_, rfl⟩
          rw [← hd] at z3 hzb
          clear DN RT hd hz
          go_wp2_with fail
          go_roundg (2 * n - (i + 1 + k))
          case rel => exact ⟨i + 1, k, _, by omega, by omega, by omega, by go_num, rfl, N, O15, O25, T5, B5⟩
          case measure => omega
        · have N := Lib.hid (RT.out hz)
          have hzb : ((x - m : Int) == 0) = false := by rw [beq_eq_false_iff_ne]; exact hz
          obtain ⟨d, hd⟩ : ∃ d, d = x - m := ⟨_, rfl⟩
          rw [← hd] at z3 hzb
          clear DN RT hd hz
          go_wp2_with fail
          go_roundg (2 * n - (i + (k + 1)))
          case rel => exact ⟨i, k + 1, _, by omega, by omega, by omega, rfl, by go_num, N, O15, O25, T5, B5⟩
          case measure => omega
      · have hkn' : k = n := by omega
        have FE := Lib.hid (edg_end OK.out hi1 hk1 HE.out (Or.inr hkn'))
        have i1 : (i : Int) < (n : Int) := by omega
        have k1 : ¬ (k : Int) < (n : Int) := by omega
        have TT := HT.out
        rw [FE.out] at TT
        have TF := Lib.hid TT
        clear hkn' TT
        go_wp2_with fail
        go_ret
        exact ⟨rfl, TF.out, HB.out⟩
    · have hin' : i = n := by omega
      have FE := Lib.hid (edg_end OK.out hi1 hk1 HE.out (Or.inl hin'))
      have i1 : ¬ (i : Int) < (n : Int) := by omega
      have TT := HT.out
      rw [FE.out] at TT
      have TF := Lib.hid TT
      clear hin' TT
      go_wp2_with fail
      go_ret
      exact ⟨rfl, TF.out, HB.out⟩
end Go.Proofs.Ytligidmkhbcpmab
