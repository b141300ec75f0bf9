/- Gains of stakes, in the program. -/
import Derived.Test.YtbpelmpipkkonaaGainP
import Derived.Test.YtbpelmpipkkonaaDepthI
import Derived.IntWalk
namespace Go.Proofs.Ytbpelmpipkkonaa
open Go.RowKit
set_option linter.unusedVariables false
set_option maxRecDepth 100000 in
set_option maxHeartbeats 4000000 in
theorem gainI (ps ws zs ks : List Int) (v u1 u2 : Value) (w : World) (hn1 : zs.length ≤ 1048576) (hn2 : ks.length ≤ 1048576) (h : TreeV w w.heap.size v ps ws) (hu : IntsV w w.heap.size u1 zs) (hv : IntsV w w.heap.size u2 ks) :
    Calls Try.prog 39 #[v, u1, u2] w (NewIntsB (ifStake ps ws zs ks (gainT ps zs ks)) (stakeB ps ws zs ks) w) := by
  have PC := Lib.hid (fun w' (hb : Below w.heap.size w w') => procI ps ws zs v u1 w' hn1 (h.boxed hb) ((hu.below hb).more hb.size))
  have WC := Lib.hid (fun w' (hb : Below w.heap.size w w') => withinI ks u2 (zs.length : Int) 20 w' (by omega) hn2 ((hv.below hb).more hb.size))
  obtain ⟨v1, v2, rfl, ⟨p1, c1, rfl, l1, m1, _, i1⟩, ⟨p2, c2, rfl, l2, m2, _, i2⟩⟩ := h
  have P1 := Lib.hid i1
  clear i1 i2 m1 m2
  obtain ⟨q1, d1, rfl, _, _, _, j1⟩ := hu
  obtain ⟨q2, d2, rfl, _, _, _, j2⟩ := hv
  have Q1 := Lib.hid j1
  have Q2 := Lib.hid j2
  clear j1 j2
  have B1 := (Below.refl w.heap.size w).alloc (Nat.le_refl _) (.cells #[.slice p1 ps.length c1, .slice p2 ws.length c2] 28)
  have T1 := Lib.hid (show TBox (w.alloc (.cells #[.slice p1 ps.length c1, .slice p2 ws.length c2] 28)) w.heap.size (.slice p1 ps.length c1) (.slice p2 ws.length c2) from alloc_heap w _)
  obtain ⟨wa, hwa⟩ : ∃ wa, wa = w.alloc (.cells #[.slice p1 ps.length c1, .slice p2 ws.length c2] 28) := ⟨_, rfl⟩
  have sz : wa.heap.size = w.heap.size + 1 := by rw [hwa]; simp
  rw [← hwa] at B1 T1
  have HBA := Lib.hid B1
  clear B1
  have D : Hid (stakeB ps ws zs ks = (procB ps ws zs && (decide (ks.length = zs.length) && withinB 20 ks))) := Lib.hid rfl
  have DW : Hid (decide ((ks.length : Int) = (zs.length : Int)) = decide (ks.length = zs.length)) := Lib.hid (by rw [Bool.eq_iff_iff, decide_eq_true_iff, decide_eq_true_iff]; omega)
  rw [DW.out] at WC
  obtain ⟨x0, x1⟩ := T1.out.cells
  cases hp : procB ps ws zs
  · rw [hp] at PC D
    have SB := Lib.hid (show stakeB ps ws zs ks = false by rw [D.out, Bool.false_and])
    have IS := Lib.hid (show ifStake ps ws zs ks (gainT ps zs ks) = [] by unfold ifStake; rw [SB.out]; rfl)
    clear hp D
    rw [IS.out, SB.out]
    go_enter Try.func39, Try.ntmps39
    go_wp2_with fail
    rw [← hwa]
    clear hwa
    refine (PC.out _ HBA.out).mono ?_
    rintro e w1 ⟨rfl, b1⟩
    have HB1 := Lib.hid (HBA.out.trans (b1.mono HBA.out.size))
    clear b1
    go_wp2_with fail
    go_ret2
    exact newInts_empty HB1.out
  · rw [hp] at PC D
    cases hk : (decide (ks.length = zs.length) && withinB 20 ks)
    · rw [hk] at WC D
      have SB := Lib.hid (show stakeB ps ws zs ks = false by rw [D.out]; rfl)
      have IS := Lib.hid (show ifStake ps ws zs ks (gainT ps zs ks) = [] by unfold ifStake; rw [SB.out]; rfl)
      clear hp D hk
      rw [IS.out, SB.out]
      go_enter Try.func39, Try.ntmps39
      go_wp2_with fail
      rw [← hwa]
      clear hwa
      refine (PC.out _ HBA.out).mono ?_
      rintro e w1 ⟨rfl, b1⟩
      have HB1 := Lib.hid (HBA.out.trans (b1.mono HBA.out.size))
      clear b1
      go_wp2_with fail
      refine (WC.out _ HB1.out).mono ?_
      rintro e w2 ⟨rfl, b2⟩
      have HB2 := Lib.hid (HB1.out.trans (b2.mono HB1.out.size))
      clear b2
      go_wp2_with fail
      go_ret2
      exact newInts_empty HB2.out
    · rw [hk] at WC D
      have SB := Lib.hid (show stakeB ps ws zs ks = true by rw [D.out]; rfl)
      have IS := Lib.hid (show ifStake ps ws zs ks (gainT ps zs ks) = gainT ps zs ks by unfold ifStake; rw [SB.out]; rfl)
      have ST := stakeB_iff.1 SB.out
      have GP := Lib.hid ST.proc.good.par
      have hn := ST.proc.good.n24
      have hn0 := ST.proc.good.n1
      have hlz := ST.proc.len
      have hlk := ST.len
      have TL := gainT_len ps zs ks
      have STEP := Lib.hid (fun x (h0 : 0 < x) (hx : x < ps.length) => gain_step ST h0 hx)
      have DB := Lib.hid (fun x (h0 : 0 < x) (hx : x < ps.length) => gainD_bd ST h0 hx)
      have GB := Lib.hid (fun x (hx : x < ps.length) => gain_bd ST x hx)
      have ZB := Lib.hid ST.proc.bd
      have KB := Lib.hid ST.bd
      have DEF := Lib.hid (fun x => show gainD ps zs ks x = ks.getD (ps.getD x 0).toNat 0 * (zs.getD x 0 - zs.getD (ps.getD x 0).toNat 0) from rfl)
      have ONE := Lib.hid (fillH_one (T := gainT ps zs ks) (by omega) (gain_zero ST))
      have ALL := Lib.hid (fun k hk => fillH_all (T := gainT ps zs ks) (k := k) hk)
      have AT := Lib.hid (fun j k h hk => fillH_at (T := gainT ps zs ks) (j := j) (k := k) h hk)
      have SET := Lib.hid (fun k hk => fillH_set (T := gainT ps zs ks) (k := k) hk)
      have FL := Lib.hid (fillH_len (gainT ps zs ks))
      rw [IS.out, SB.out]
      clear hp D hk ST SB IS DW
      obtain ⟨T, hT⟩ : ∃ T, T = gainT ps zs ks := ⟨_, rfl⟩
      rw [← hT] at TL STEP GB ONE ALL AT SET FL ⊢
      rw [TL] at ONE
      clear hT
      obtain ⟨i0, hi, hz0, hz1, hz2⟩ := info_parts intInfo
      have c1' : i0.bytes * ps.length ≤ 281474976710656 := by rw [hz2]; omega
      have c2' : ps.length ≤ maxLen := by unfold maxLen; omega
      have hkp : ks.length = ps.length := hlk.trans hlz
      rw [hkp] at WC ⊢
      rw [hlz] at PC WC ⊢
      have le1 : zs.length ≤ ps.length := by omega
      have le2 : ps.length ≤ zs.length := by omega
      have le3 : ks.length ≤ ps.length := by omega
      have le4 : ps.length ≤ ks.length := by omega
      clear hkp hlz hlk
      go_enter Try.func39, Try.ntmps39
      go_wp2_with fail
      rw [← hwa]
      clear hwa
      refine (PC.out _ HBA.out).mono ?_
      rintro e w1 ⟨rfl, b1⟩
      have HB1 := Lib.hid (HBA.out.trans (b1.mono HBA.out.size))
      have HT1 := Lib.hid (T1.out.below b1 T1.out.lt)
      clear b1
      go_wp2_with fail
      refine (WC.out _ HB1.out).mono ?_
      rintro e w2 ⟨rfl, b2⟩
      have HB2 := Lib.hid (HB1.out.trans (b2.mono HB1.out.size))
      have HT2 := Lib.hid (HT1.out.below b2 HT1.out.lt)
      have hw2 : w.heap.size < w2.heap.size := HT2.out.lt
      clear b2 x0 x1 HB1 HT1 T1 HBA sz
      go_wp2_with (at_make; refine wpList_make_full _ rfl _ _ 22 rfl w2.heap.size 3 i0 (.int .i64 0) 1 Try.underlying22 hi hz0 hz1 .i64 .i64 _ _ ps.length rfl rfl rfl rfl c1' c2' (Nat.le_refl _) ?_; intro w3 hown hg2)
      have hown1 : w3.ownsRow w2.heap.size 3 1 (.slice (some ⟨w2.heap.size, 0, none⟩) ps.length ps.length) ps.length (List.replicate ps.length (.int .i64 0)) := by
        have h2 := hown
        rw [show (Value.int .i64 0).cells = #[Value.int .i64 0] from rfl, Nat.mul_one, toList_madeCells_one] at h2
        exact h2
      have O2 := Lib.hid (OwnV.made hown1)
      rw [← ONE.out] at O2
      have B2 := Lib.hid (HB2.out.grown hg2 HB2.out.size (fun q hq => by simp at hq))
      have T2 := Lib.hid (HT2.out.grown hg2 (lo := w2.heap.size) (fun q hq => by simp at hq) hw2)
      clear hown hown1 hg2 c1' c2' hi hz0 hz1 hz2
      go_loopw [9] (fun i wr => ∃ k : Nat, 1 ≤ k ∧ k ≤ ps.length ∧ i = .int .i64 k ∧ Hid (OwnV wr w2.heap.size wr.heap.size (.slice (some ⟨w2.heap.size, 0, none⟩) ps.length ps.length) (fillH T k)) ∧ Hid (TBox wr w.heap.size (.slice p1 ps.length c1) (.slice p2 ws.length c2)) ∧ Hid (Below w.heap.size w wr)) (fun i _ => ps.length - (intOf i).toNat)
      case atStart => exact ⟨1, Nat.le_refl _, hn0, rfl, O2, T2, B2⟩
      case round =>
        obtain ⟨k, hk1, hk, rfl, HO, HT, HB⟩ := hrel
        obtain ⟨x0, x1⟩ := HT.out.cells
        clear T2 B2 O2 HB2 HT2
        by_cases hlt : k < ps.length
        · obtain ⟨b, off, rfl, hb, hc⟩ := P1.out.get hlt
          obtain ⟨g1, g2⟩ := GP.out k (by omega) hlt
          obtain ⟨j, hj⟩ : ∃ j : Nat, ps.getD k 0 = (j : Int) := ⟨(ps.getD k 0).toNat, by omega⟩
          have hjk : j < k := by omega
          have hcw : wr.cell? ⟨b, off + k, none⟩ = some (.int .i64 j) := by rw [HB.out.cell (p := ⟨b, off + k, none⟩) hb, hc, hj]
          obtain ⟨bz, oz, rfl, hbz, hcz⟩ := Q1.out.get (i := k) (by omega)
          obtain ⟨bz', oz', ez, hbz', hcz'⟩ := Q1.out.get (i := j) (by omega)
          obtain ⟨rfl, rfl⟩ : bz = bz' ∧ oz = oz' := by injection ez with ez; injection ez with e1 e2; exact ⟨e1, e2⟩
          obtain ⟨bk, ok, rfl, hbk, hck⟩ := Q2.out.get (i := j) (by omega)
          have hz_k : wr.cell? ⟨bz, oz + k, none⟩ = some (.int .i64 (zs.getD k 0)) := by rw [HB.out.cell (p := ⟨bz, oz + k, none⟩) hbz, hcz]
          have hz_j : wr.cell? ⟨bz, oz + j, none⟩ = some (.int .i64 (zs.getD j 0)) := by rw [HB.out.cell (p := ⟨bz, oz + j, none⟩) hbz, hcz']
          have hk_j : wr.cell? ⟨bk, ok + j, none⟩ = some (.int .i64 (ks.getD j 0)) := by rw [HB.out.cell (p := ⟨bk, ok + j, none⟩) hbk, hck]
          have hdj : wr.cell? ⟨w2.heap.size, j, none⟩ = some (.int .i64 (T.getD j 0)) := by
            rw [HO.out.cellGet (by rw [FL.out]; omega), AT.out j k hjk (by omega)]
          obtain ⟨z, hdk⟩ : ∃ z : Int, wr.cell? ⟨w2.heap.size, k, none⟩ = some (.int .i64 z) := ⟨_, HO.out.cellGet (by rw [FL.out]; omega)⟩
          have hfz : wr.frozen? ⟨w2.heap.size, k, none⟩ = false := HO.out.frozenGet k
          have st := STEP.out k (by omega) hlt
          have df := DEF.out k
          have db := DB.out k (by omega) hlt
          have gb := GB.out j (by omega)
          have zb1 := ZB.out k (by omega)
          have zb2 := ZB.out j (by omega)
          have se := SET.out k (by omega)
          have gj : j * 39960 ≤ 23 * 39960 := Nat.mul_le_mul_right _ (by omega)
          rw [hj, Int.toNat_natCast] at st df
          rw [st, df] at se
          rw [df] at db
          obtain ⟨tj, htj⟩ : ∃ t, t = T.getD j 0 := ⟨_, rfl⟩
          obtain ⟨a, ha⟩ : ∃ t, t = ks.getD j 0 := ⟨_, rfl⟩
          obtain ⟨y1, hy1⟩ : ∃ t, t = zs.getD k 0 := ⟨_, rfl⟩
          obtain ⟨y2, hy2⟩ : ∃ t, t = zs.getD j 0 := ⟨_, rfl⟩
          rw [← htj] at hdj gb se
          rw [← ha] at hk_j db se
          rw [← hy1] at hz_k db se zb1
          rw [← hy2] at hz_j db se zb2
          clear st df hc hcz hcz' hck ez hj htj ha hy1 hy2 g1 g2 hbz'
          have O3 := Lib.hid (HO.out.setAt k (x := tj + a * (y1 - y2)) (by unfold InI64; omega))
          rw [se] at O3
          have T3 := Lib.hid (HT.out.set (g := w2.heap.size) (o := k) (x := .int .i64 (tj + a * (y1 - y2))) (by omega))
          have B3 := Lib.hid (HB.out.setCell (p := ⟨w2.heap.size, k, none⟩) (by simp; omega) (.int .i64 (tj + a * (y1 - y2))))
          have i0' : (0 : Int) ≤ (k : Int) := by omega
          have i1' : (k : Int) < (ps.length : Int) := by omega
          have j0 : (0 : Int) ≤ (j : Int) := by omega
          have j1 : (j : Int) < (ps.length : Int) := by omega
          have WR : IntKind.i64.wrap (a * (y1 - y2)) = a * (y1 - y2) := IntWalk.i64_in _ (by omega)
          have db1 : -39960 ≤ a * (y1 - y2) ∧ a * (y1 - y2) ≤ 39960 := by omega
          clear HO HT HB se db
          go_wp2_with fail
          go_region
          go_wp2_with fail
          go_roundw
          case rel => exact ⟨k + 1, by omega, by omega, by go_num, Lib.hid (by have h := O3.out.below (below_drew (Below.refl _ _)); simpa [World.setCell] using h), Lib.hid (show TBox _ _ _ _ from T3.out), Lib.hid (below_drew B3.out)⟩
          case measure => simp [intOf]; omega
        · obtain rfl : k = ps.length := by omega
          have FIN : Hid (NewIntsB T true w (.returned (.tuple #[.slice (some ⟨w2.heap.size, 0, none⟩) ps.length ps.length, .bool true])) wr) := Lib.hid ⟨_, rfl, by have := HO.out.low (lo' := w.heap.size) (by omega); rwa [ALL.out _ (by omega)] at this, HB.out⟩
          go_wp2
          go_ret2
          exact FIN.out
end Go.Proofs.Ytbpelmpipkkonaa
