/- Gains of stakes, in the model. -/
import Derived.Test.YtbpelmpipkkonaaProcM
import Derived.Test.YtbpelmpipkkonaaGainP
import Derived.Test.YtbpelmpipkkonaaPassI
import Derived.Test.YtbpelmpipkkonaaWayS
import Derived.IntWalk
import Derived.Deep.AppendLies
import Derived.BigRegion
import Derived.Deep.RegionLaw
namespace Go.Proofs.Ytbpelmpipkkonaa
open Go.RowKit
set_option linter.unusedVariables false
set_option maxHeartbeats 2000000 in
theorem stakesS (ps ws ks : List Int) (v u : Value) (w : World) (hn : ks.length ≤ 1048576) (h : TreeV w w.heap.size v ps ws) (hu : IntsV w w.heap.size u ks) :
    Calls Try.prog 68 #[v, u] w (Gives (.bool (decide (ks.length = ps.length) && withinB 20 ks)) w) := by
  obtain ⟨v1, v2, rfl, ⟨p1, c1, rfl, l1, m1, _, i1⟩, ⟨p2, c2, rfl, l2, m2, _, i2⟩⟩ := h
  unfold maxLen at m1
  obtain ⟨q, cq, rfl, lq, mq, zq, iq⟩ := hu
  have E1 := Lib.hid iq
  clear iq zq mq i1 i2 m2
  have B1 := (Below.refl w.heap.size w).alloc (Nat.le_refl _) (.cells #[.slice p1 ps.length c1, .slice p2 ws.length c2] 28)
  have T1 := Lib.hid (show TBox (w.alloc (.cells #[.slice p1 ps.length c1, .slice p2 ws.length c2] 28)) w.heap.size (.slice p1 ps.length c1) (.slice p2 ws.length c2) from alloc_heap w _)
  obtain ⟨wa, hwa⟩ : ∃ wa, wa = w.alloc (.cells #[.slice p1 ps.length c1, .slice p2 ws.length c2] 28) := ⟨_, rfl⟩
  rw [← hwa] at B1 T1
  have HBA := Lib.hid B1
  clear B1
  go_enter Try.func68, Try.ntmps68
  go_wp2
  rw [← hwa]
  clear hwa
  go_loopw [5] (fun i wr => ∃ k : Nat, k ≤ ks.length ∧ i = .int .i64 k ∧ Hid (∀ j, j < k → -20 ≤ ks.getD j 0 ∧ ks.getD j 0 ≤ 20) ∧ ∃ n, wr = wa.drewN n) (fun i _ => ks.length - (intOf i).toNat)
  case atStart => exact ⟨0, Nat.zero_le _, rfl, Lib.hid (fun j hj => by omega), 0, rfl⟩
  case round =>
    obtain ⟨k, hk, rfl, HA, n, rfl⟩ := hrel
    by_cases hlt : k < ks.length
    · obtain ⟨b, off, rfl, hb, hc⟩ := E1.out.get hlt
      have hcw : wa.cell? ⟨b, off + k, none⟩ = some (.int .i64 (ks.getD k 0)) := by rw [HBA.out.cell (p := ⟨b, off + k, none⟩) hb]; exact hc
      have i0 : (0 : Int) ≤ (k : Int) := by omega
      have i1 : (k : Int) < (ks.length : Int) := by omega
      have NO := Lib.hid (within_no (m := 20) hlt)
      have NX : Hid (-20 ≤ ks.getD k 0 ∧ ks.getD k 0 ≤ 20 → ∀ j, j < k + 1 → -20 ≤ ks.getD j 0 ∧ ks.getD j 0 ≤ 20) := Lib.hid (fun h j hj => by
        rcases Nat.lt_or_ge j k with h' | h'
        · exact HA.out j h'
        · obtain rfl : j = k := by omega
          exact h)
      obtain ⟨z, hz⟩ : ∃ z, z = ks.getD k 0 := ⟨_, rfl⟩
      rw [← hz] at hcw NO NX
      clear hc hz HA
      by_cases hin : -20 ≤ z ∧ z ≤ 20
      · have I := Lib.hid (fun w => inS_true z (-20) 20 w hin)
        have N2 := Lib.hid (NX.out hin)
        clear NX NO hin
        go_wp2_with fail
        refine (I.out _).mono ?_
        rintro e w1 ⟨rfl, rfl⟩
        go_wp2_with fail
        go_roundw
        case rel => exact ⟨k + 1, by omega, by go_num, N2, _, rfl⟩
        case measure => simp [intOf]; omega
      · have I := Lib.hid (fun w => inS_false z (-20) 20 w hin)
        have N2 := Lib.hid (NO.out hin)
        have R := Lib.hid (show (decide (ks.length = ps.length) && withinB 20 ks) = false by rw [N2.out, Bool.and_false])
        clear NX NO hin N2
        go_wp2_with fail
        refine (I.out _).mono ?_
        rintro e w1 ⟨rfl, rfl⟩
        go_wp2_with fail
        go_ret
        exact ⟨ret_b R.out, below_drewN HBA.out n⟩
    · have WI : Hid (withinB 20 ks = true) := Lib.hid (within_yes (fun i hi => HA.out i (by omega)))
      have R2 : Hid ((decide (ks.length = ps.length) && withinB 20 ks) = ((ks.length : Int) == (ps.length : Int))) := Lib.hid (by
        rw [WI.out, Bool.and_true, Bool.eq_iff_iff, decide_eq_true_iff, beq_iff_eq]; omega)
      have TN : Hid (TBox (wa.drewN n) w.heap.size (.slice p1 ps.length c1) (.slice p2 ws.length c2)) := T1
      obtain ⟨x0, x1⟩ := TN.out.cells
      clear HA WI
      go_wp2_with fail
      go_ret
      exact ⟨ret_b R2.out, below_drewN HBA.out n⟩
set_option maxRecDepth 100000 in
set_option maxHeartbeats 4000000 in
theorem gainM (ps ws zs ks : List Int) (v u1 u2 : Value) (w : World) (hn1 : zs.length ≤ 1048576) (hn2 : ks.length ≤ 1048576) (h : TreeV w w.heap.size v ps ws) (hu : IntsV w w.heap.size u1 zs) (hv : IntsV w w.heap.size u2 ks) :
    Calls Try.prog 38 #[v, u1, u2] w (NewIntsB (ifStake ps ws zs ks (gainT ps zs ks)) (stakeB ps ws zs ks) w) := by
  have PC := Lib.hid (fun w' (hb : Below w.heap.size w w') => procS ps ws zs v u1 w' hn1 (h.boxed hb) ((hu.below hb).more hb.size))
  have WC := Lib.hid (fun w' (hb : Below w.heap.size w w') => stakesS ps ws ks v u2 w' hn2 (h.boxed hb) ((hv.below hb).more hb.size))
  obtain ⟨v1, v2, rfl, ⟨p1, c1, rfl, l1, m1, _, i1⟩, ⟨p2, c2, rfl, l2, m2, _, i2⟩⟩ := h
  have P1 := Lib.hid i1
  clear i1 i2 m1 m2
  obtain ⟨q1, d1, rfl, _, _, _, j1⟩ := hu
  obtain ⟨q2, d2, rfl, _, _, _, j2⟩ := hv
  have Q1 := Lib.hid j1
  have Q2 := Lib.hid j2
  clear j1 j2
  have B1 := (Below.refl w.heap.size w).alloc (Nat.le_refl _) (.cells #[.slice p1 ps.length c1, .slice p2 ws.length c2] 28)
  have T1 := Lib.hid (show TBox (w.alloc (.cells #[.slice p1 ps.length c1, .slice p2 ws.length c2] 28)) w.heap.size (.slice p1 ps.length c1) (.slice p2 ws.length c2) from alloc_heap w _)
  obtain ⟨wa, hwa⟩ : ∃ wa, wa = w.alloc (.cells #[.slice p1 ps.length c1, .slice p2 ws.length c2] 28) := ⟨_, rfl⟩
  have sz : wa.heap.size = w.heap.size + 1 := by rw [hwa]; simp
  rw [← hwa] at B1 T1
  have HBA := Lib.hid B1
  clear B1
  have D : Hid (stakeB ps ws zs ks = (procB ps ws zs && (decide (ks.length = zs.length) && withinB 20 ks))) := Lib.hid rfl
  obtain ⟨x0, x1⟩ := T1.out.cells
  cases hp : procB ps ws zs
  · rw [hp] at PC D
    have SB := Lib.hid (show stakeB ps ws zs ks = false by rw [D.out, Bool.false_and])
    have IS := Lib.hid (show ifStake ps ws zs ks (gainT ps zs ks) = [] by unfold ifStake; rw [SB.out]; rfl)
    clear hp D
    rw [IS.out, SB.out]
    go_enter Try.func38, Try.ntmps38
    go_wp2_with fail
    rw [← hwa]
    clear hwa
    refine (PC.out _ HBA.out).mono ?_
    rintro e w1 ⟨rfl, b1⟩
    have HB1 := Lib.hid (HBA.out.trans (b1.mono HBA.out.size))
    clear b1
    go_wp2_with fail
    go_ret2
    exact newInts_empty HB1.out
  · have PR := procB_iff.1 hp
    rw [hp] at PC D
    have HLZ := Lib.hid PR.len
    have DW : Hid ((decide (ks.length = ps.length) && withinB 20 ks) = (decide (ks.length = zs.length) && withinB 20 ks)) := Lib.hid (by rw [HLZ.out])
    rw [DW.out] at WC
    cases hk : (decide (ks.length = zs.length) && withinB 20 ks)
    · rw [hk] at WC D
      have SB := Lib.hid (show stakeB ps ws zs ks = false by rw [D.out]; rfl)
      have IS := Lib.hid (show ifStake ps ws zs ks (gainT ps zs ks) = [] by unfold ifStake; rw [SB.out]; rfl)
      clear hp D hk PR
      rw [IS.out, SB.out]
      go_enter Try.func38, Try.ntmps38
      go_wp2_with fail
      rw [← hwa]
      clear hwa
      refine (PC.out _ HBA.out).mono ?_
      rintro e w1 ⟨rfl, b1⟩
      have HB1 := Lib.hid (HBA.out.trans (b1.mono HBA.out.size))
      obtain ⟨y0, y1⟩ := (T1.out.below b1 T1.out.lt).cells
      clear b1
      go_wp2_with fail
      refine (WC.out _ HB1.out).mono ?_
      rintro e w2 ⟨rfl, b2⟩
      have HB2 := Lib.hid (HB1.out.trans (b2.mono HB1.out.size))
      clear b2
      go_wp2_with fail
      go_ret2
      exact newInts_empty HB2.out
    · rw [hk] at WC D
      have SB := Lib.hid (show stakeB ps ws zs ks = true by rw [D.out]; rfl)
      have IS := Lib.hid (show ifStake ps ws zs ks (gainT ps zs ks) = gainT ps zs ks by unfold ifStake; rw [SB.out]; rfl)
      have ST := stakeB_iff.1 SB.out
      have GP := Lib.hid ST.proc.good.par
      have hn := ST.proc.good.n24
      have hn0 := ST.proc.good.n1
      have hlk := ST.len
      have hlz := HLZ.out
      have TL := gainT_len ps zs ks
      have STEP := Lib.hid (fun x (h0 : 0 < x) (hx : x < ps.length) => gain_step ST h0 hx)
      have DB := Lib.hid (fun x (h0 : 0 < x) (hx : x < ps.length) => gainD_bd ST h0 hx)
      have GB := Lib.hid (fun x (hx : x < ps.length) => gain_bd ST x hx)
      have ZB := Lib.hid ST.proc.bd
      have DEF := Lib.hid (fun x => show gainD ps zs ks x = ks.getD (ps.getD x 0).toNat 0 * (zs.getD x 0 - zs.getD (ps.getD x 0).toNat 0) from rfl)
      have ONE : Hid ((gainT ps zs ks).take 1 = [0]) := Lib.hid (by rw [take_next (by omega), gain_zero ST]; rfl)
      have NEXT := Lib.hid (fun k (hk : k < (gainT ps zs ks).length) => take_next hk)
      have AT := Lib.hid (fun j k (h : j < k) => getD_take (T := gainT ps zs ks) h)
      rw [IS.out, SB.out]
      clear hp D hk ST SB IS PR
      obtain ⟨T, hT⟩ : ∃ T, T = gainT ps zs ks := ⟨_, rfl⟩
      rw [← hT] at TL STEP GB ONE AT NEXT ⊢
      clear hT
      obtain ⟨i0, hi, hz0, hz1, hz2⟩ := info_parts intInfo
      have hkp : ks.length = ps.length := hlk.trans hlz
      rw [hkp] at WC ⊢
      rw [hlz] at PC ⊢
      have le1 : zs.length ≤ ps.length := by omega
      have le2 : ps.length ≤ zs.length := by omega
      have le3 : ks.length ≤ ps.length := by omega
      have le4 : ps.length ≤ ks.length := by omega
      clear hkp hlz hlk
      go_enter Try.func38, Try.ntmps38
      go_wp2_with fail
      rw [← hwa]
      clear hwa
      refine (PC.out _ HBA.out).mono ?_
      rintro e w1 ⟨rfl, b1⟩
      have HB1 := Lib.hid (HBA.out.trans (b1.mono HBA.out.size))
      have HT1 := Lib.hid (T1.out.below b1 T1.out.lt)
      obtain ⟨y0, y1⟩ := HT1.out.cells
      clear b1
      go_wp2_with fail
      refine (WC.out _ HB1.out).mono ?_
      rintro e w2 ⟨rfl, b2⟩
      have HB2 := Lib.hid (HB1.out.trans (b2.mono HB1.out.size))
      have HT2 := Lib.hid (HT1.out.below b2 HT1.out.lt)
      have hw2 : w.heap.size + 1 ≤ w2.heap.size := HT2.out.lt
      have B2 := Lib.hid (HB2.out.alloc HB2.out.size (.cells #[.int .i64 0] 3))
      have T2 := Lib.hid (HT2.out.alloc (.cells #[.int .i64 0] 3))
      have O2 := Lib.hid (OwnV.single w2 (w.heap.size + 1) 0 hw2 (by unfold InI64; omega))
      clear b2 x0 x1 y0 y1 HB1 HT1 T1 HBA sz HB2 HT2
      go_wp2
      go_loopw [8, 9] (fun o i wr => ∃ k : Nat, 1 ≤ k ∧ k ≤ ps.length ∧ i = .int .i64 k ∧ Hid (OwnV wr (w.heap.size + 1) wr.heap.size o (T.take k)) ∧ Hid (TBox wr w.heap.size (.slice p1 ps.length c1) (.slice p2 ws.length c2)) ∧ Hid (Below w.heap.size w wr)) (fun _ i _ => ps.length - (intOf i).toNat)
      case atStart => exact ⟨1, Nat.le_refl _, hn0, rfl, Lib.hid (by rw [ONE.out]; exact O2.out), T2, B2⟩
      case round =>
        obtain ⟨k, hk1, hk, rfl, HO, HT, HB⟩ := hrel
        obtain ⟨x0, x1⟩ := HT.out.cells
        clear T2 B2 O2
        by_cases hlt : k < ps.length
        · obtain ⟨b, off, rfl, hb, hc⟩ := P1.out.get hlt
          obtain ⟨g1, g2⟩ := GP.out k (by omega) hlt
          obtain ⟨j, hj⟩ : ∃ j : Nat, ps.getD k 0 = (j : Int) := ⟨(ps.getD k 0).toNat, by omega⟩
          have hjk : j < k := by omega
          have hcw : wr.cell? ⟨b, off + k, none⟩ = some (.int .i64 j) := by rw [HB.out.cell (p := ⟨b, off + k, none⟩) hb, hc, hj]
          obtain ⟨bz, oz, rfl, hbz, hcz⟩ := Q1.out.get (i := k) (by omega)
          obtain ⟨bz', oz', ez, hbz', hcz'⟩ := Q1.out.get (i := j) (by omega)
          obtain ⟨rfl, rfl⟩ : bz = bz' ∧ oz = oz' := by injection ez with ez; injection ez with e1 e2; exact ⟨e1, e2⟩
          obtain ⟨bk, ok, rfl, hbk, hck⟩ := Q2.out.get (i := j) (by omega)
          have hz_k : wr.cell? ⟨bz, oz + k, none⟩ = some (.int .i64 (zs.getD k 0)) := by rw [HB.out.cell (p := ⟨bz, oz + k, none⟩) hbz, hcz]
          have hz_j : wr.cell? ⟨bz, oz + j, none⟩ = some (.int .i64 (zs.getD j 0)) := by rw [HB.out.cell (p := ⟨bz, oz + j, none⟩) hbz, hcz']
          have hk_j : wr.cell? ⟨bk, ok + j, none⟩ = some (.int .i64 (ks.getD j 0)) := by rw [HB.out.cell (p := ⟨bk, ok + j, none⟩) hbk, hck]
          have LT : (T.take k).length = k := by rw [List.length_take]; omega
          obtain ⟨g, cap, rfl, hg1, hg2⟩ := HO.out.shape (by omega)
          have hdj : wr.cell? ⟨g, j, none⟩ = some (.int .i64 (T.getD j 0)) := by
            rw [HO.out.cellGet (by omega), AT.out j k hjk]
          have st := STEP.out k (by omega) hlt
          have df := DEF.out k
          have db := DB.out k (by omega) hlt
          have gb := GB.out j (by omega)
          have zb1 := ZB.out k (by omega)
          have zb2 := ZB.out j (by omega)
          have se := NEXT.out k (by omega)
          have gj : j * 39960 ≤ 23 * 39960 := Nat.mul_le_mul_right _ (by omega)
          rw [hj, Int.toNat_natCast] at st df
          rw [st, df] at se
          rw [df] at db
          obtain ⟨L, hL⟩ : ∃ L, L = T.take k := ⟨_, rfl⟩
          rw [← hL] at HO LT se
          obtain ⟨tj, htj⟩ : ∃ t, t = T.getD j 0 := ⟨_, rfl⟩
          obtain ⟨a, ha⟩ : ∃ t, t = ks.getD j 0 := ⟨_, rfl⟩
          obtain ⟨y1, hy1⟩ : ∃ t, t = zs.getD k 0 := ⟨_, rfl⟩
          obtain ⟨y2, hy2⟩ : ∃ t, t = zs.getD j 0 := ⟨_, rfl⟩
          rw [← htj] at hdj gb se
          rw [← ha] at hk_j db se
          rw [← hy1] at hz_k db se zb1
          rw [← hy2] at hz_j db se zb2
          have SE := Lib.hid se
          have NI := Lib.hid (show InI64 (tj + a * (y1 - y2)) by unfold InI64; omega)
          rw [← hL]
          have hown := HO.out.row
          have le5 : L.length ≤ k := by omega
          have le6 : k ≤ L.length := by omega
          clear st df hc hcz hcz' hck ez hj htj ha hy1 hy2 g1 g2 hbz' hL se
          have hsz := HT.out.lt
          have i0' : (0 : Int) ≤ (k : Int) := by omega
          have i1' : (k : Int) < (ps.length : Int) := by omega
          have j0 : (0 : Int) ≤ (j : Int) := by omega
          have j1 : (j : Int) < (ps.length : Int) := by omega
          have j3 : (j : Int) < (L.length : Int) := by omega
          clear LT
          have db1 : -39960 ≤ a * (y1 - y2) ∧ a * (y1 - y2) ≤ 39960 := by omega
          have WR : IntKind.i64.wrap (a * (y1 - y2)) = a * (y1 - y2) := IntWalk.i64_in _ (by omega)
          clear db
          have HOD := Lib.hid ((HO.out.below (below_drew (Below.refl _ _))).wide (Below.size (below_drew (Below.refl wr.heap.size wr))) (Nat.le_refl _))
          have HBD := Lib.hid (below_drew HB.out)
          have HTD := Lib.hid (HT.out.below (below_drew (Below.refl _ _)) HT.out.lt)
          have hsd : w.heap.size < wr.drew.heap.size := hsz
          have WE : Hid ((IntKind.i64.wrap (tj + IntKind.i64.wrap (a * IntKind.i64.wrap (y1 - y2)))) = tj + a * (y1 - y2)) := Lib.hid (by rw [IntWalk.i64_in (y1 - y2) (by omega), WR, IntWalk.i64_in _ (by omega)])
          have HOA : Hid ((wr.alloc (.cells #[.int .i64 (IntKind.i64.wrap (tj + IntKind.i64.wrap (a * IntKind.i64.wrap (y1 - y2))))] 3)).drew.ownsRow (w.heap.size + 1) 3 1 (.slice (some ⟨g, 0, none⟩) L.length cap) L.length (L.map (.int .i64))) := Lib.hid (HO.out.row.alloc _)
          have HNA : Hid (∀ j u, [Value.int .i64 (IntKind.i64.wrap (tj + IntKind.i64.wrap (a * IntKind.i64.wrap (y1 - y2))))][j]? = some u → (wr.alloc (.cells #[.int .i64 (IntKind.i64.wrap (tj + IntKind.i64.wrap (a * IntKind.i64.wrap (y1 - y2))))] 3)).drew.cell? ((⟨wr.heap.size, 0, none⟩ : Addr).add j) = some u) := Lib.hid (cell_one_new wr _ 3)
          clear hown
          go_wp2_with fail
          go_region_law (refine step_append_lies _ rfl _ _ 22 rfl (w.heap.size + 1) 3 i0 (.int .i64 0) 1 8 Try.underlying22 hi hz0 hz1 hz2 rfl (by decide) _ L.length (L.map (.int .i64)) rfl HOA.out ⟨wr.heap.size, 0, none⟩ 1 1 [.int .i64 (IntKind.i64.wrap (tj + IntKind.i64.wrap (a * IntKind.i64.wrap (y1 - y2))))] rfl rfl HNA.out (fun u hu => by simp at hu; subst hu; rfl) (by omega) (by unfold maxLen; omega) (by omega) (by simp; omega) _ rfl ?_; intro g4 cap4 w4 hown3 hgrow3 hat3 hlt3)
          all_goals
            rw [WE.out] at hown3 hgrow3
            have own3 := Lib.hid (HOD.out.app NI.out hown3)
            have bel3 := Lib.hid ((below_drew (HB.out.alloc HB.out.size _)).grown hgrow3 (by simp; omega) (fun q hq => by have := (HOA.out.lt q hq).1; omega))
            have box3 := Lib.hid (((HT.out.alloc (.cells #[.int .i64 (tj + a * (y1 - y2))] 3)).below (below_drew (Below.refl _ _)) (HT.out.alloc (.cells #[.int .i64 (tj + a * (y1 - y2))] 3)).lt).grown hgrow3 (fun q hq => (HOA.out.lt q hq).1) (by omega))
            clear hown3 hgrow3 hat3 hlt3
            go_wp2_with fail
            go_roundw
            case rel => exact ⟨k + 1, by omega, by omega, by go_num, Lib.hid (by rw [SE.out]; exact own3.out), box3, bel3⟩
            case measure => simp [intOf]; omega
        · obtain rfl : k = ps.length := by omega
          have FIN : Hid (∀ o, OwnV wr (w.heap.size + 1) wr.heap.size o T → NewIntsB T true w (.returned (.tuple #[o, .bool true])) wr) := Lib.hid (fun o ho => ⟨_, rfl, ho.low (by omega), HB.out⟩)
          rw [List.take_of_length_le (by omega)] at HO
          go_wp2
          go_ret2
          exact FIN.out _ HO.out
end Go.Proofs.Ytbpelmpipkkonaa
