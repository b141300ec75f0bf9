/- CostlySteps in the program. -/
import Derived.Test.YtagljebfbacdhabCosP
import Derived.Test.YtagljebfbacdhabDepthI
import Derived.Test.YtagljebfbacdhabPickI
import Derived.IntWalk
namespace Go.Proofs.Ytagljebfbacdhab
open Go.RowKit
set_option linter.unusedVariables false
set_option maxRecDepth 100000 in
set_option maxHeartbeats 4000000 in
theorem cosI (ps ws zs : List Int) (c : Int) (v u1 : Value) (w : World) (hn1 : zs.length ≤ 1048576) (h : TreeV w w.heap.size v ps ws) (hu : IntsV w w.heap.size u1 zs) :
    Calls Try.prog 33 #[v, u1, .int .i64 c] w (NewIntsB (ifCos ps ws zs c) (cosB ps ws zs c) w) := by
  have PC := Lib.hid (fun w' (hb : Below w.heap.size w w') => procI ps ws zs v u1 w' hn1 (h.boxed hb) ((hu.below hb).more hb.size))
  have DS := Lib.hid (fun w' (hb : Below w.heap.size w w') => depthsI ps ws v w' (h.boxed hb))
  have PD := Lib.hid (fun w' u2 (hb : Below w.heap.size w w') (hl : (cosT ps zs c).length ≤ 1048576) (hv : IntsV w' w'.heap.size u2 (cosT ps zs c)) => procI ps ws (cosT ps zs c) v u2 w' hl (h.boxed hb) hv)
  obtain ⟨p1, c1, p2, c2, rfl⟩ := h.shape
  clear h
  obtain ⟨q1, d1, rfl, _, _, _, j1⟩ := hu
  have Q1 := Lib.hid j1
  clear j1
  have B1 := (Below.refl w.heap.size w).alloc (Nat.le_refl _) (.cells #[.slice p1 ps.length c1, .slice p2 ws.length c2] 28)
  have T1 := Lib.hid (show TBox (w.alloc (.cells #[.slice p1 ps.length c1, .slice p2 ws.length c2] 28)) w.heap.size (.slice p1 ps.length c1) (.slice p2 ws.length c2) from alloc_heap w _)
  obtain ⟨x0, x1⟩ := T1.out.cells
  obtain ⟨wa, hwa⟩ : ∃ wa, wa = w.alloc (.cells #[.slice p1 ps.length c1, .slice p2 ws.length c2] 28) := ⟨_, rfl⟩
  rw [← hwa] at B1 T1
  have HBA := Lib.hid B1
  clear B1
  have D : Hid (cosB ps ws zs c = (procB ps ws zs && (decide (0 ≤ c ∧ c ≤ 999) && procB ps ws (cosT ps zs c)))) := Lib.hid rfl
  cases hp : procB ps ws zs
  · rw [hp] at PC D
    have SB := Lib.hid (show cosB ps ws zs c = false by rw [D.out, Bool.false_and])
    have IS := Lib.hid (ifCos_no SB.out)
    clear hp D DS PD
    rw [IS.out, SB.out]
    go_enter Try.func33, Try.ntmps33
    go_wp2_with fail
    rw [← hwa]
    clear hwa
    refine (PC.out _ HBA.out).mono ?_
    rintro e w1 ⟨rfl, b1⟩
    have HB1 := Lib.hid (HBA.out.trans (b1.mono HBA.out.size))
    clear b1
    go_wp2_with fail
    go_ret2
    exact newInts_empty HB1.out
  · by_cases hc : 0 ≤ c ∧ c ≤ 999
    · have PR := procB_iff.1 hp
      have gd := PR.good
      rw [hp, Bool.true_and, decide_eq_true hc, Bool.true_and] at D
      rw [hp] at PC
      have hg : goodT ps ws = true := (goodT_iff _ _).2 gd
      rw [hg, show ifGood ps ws (depthsT ps) = depthsT ps by unfold ifGood; rw [hg]; rfl] at DS
      have hn := gd.n24
      have hn0 := gd.n1
      have hlz := PR.len
      have DL := depthsT_len ps
      have DLH := Lib.hid DL
      have TL := cosT_len ps zs c
      have TLH := Lib.hid TL
      have CB := Lib.hid (fun (x : Nat) (hx : x < ps.length) => cos_bd PR hc hx)
      have ZB := Lib.hid PR.bd
      have AT := Lib.hid (fun (x : Nat) (hx : x < ps.length) => cosT_at (zs := zs) (c := c) hx)
      have ZERO := Lib.hid (fillH_zero (cosT ps zs c))
      rw [TL] at ZERO
      have ALL := Lib.hid (fun k hk => fillH_all (T := cosT ps zs c) (k := k) hk)
      have SET := Lib.hid (fun k hk => fillH_set (T := cosT ps zs c) (k := k) hk)
      have FL := Lib.hid (fillH_len (cosT ps zs c))
      have PD2 := Lib.hid (fun w' u2 hb hv => PD.out w' u2 hb (by omega) hv)
      have IY := Lib.hid (fun h => ifCos_yes (ps := ps) (ws := ws) (zs := zs) (c := c) h)
      have IN := Lib.hid (fun h => ifCos_no (ps := ps) (ws := ws) (zs := zs) (c := c) h)
      obtain ⟨hc0, hc1⟩ := hc
      have hc2 : ¬ c < 0 := by omega
      have hc3 : ¬ c > 999 := by omega
      clear hp PR gd hg PD
      obtain ⟨T, hT⟩ : ∃ T, T = cosT ps zs c := ⟨_, rfl⟩
      rw [← hT] at TL TLH AT ZERO ALL SET FL PD2 D IY
      clear hT
      obtain ⟨DD, hDD⟩ : ∃ DD, DD = depthsT ps := ⟨_, rfl⟩
      rw [← hDD] at DS DL DLH CB AT
      clear hDD
      obtain ⟨i0, hi, hz0, hz1, hz2⟩ := info_parts intInfo
      have c1' : i0.bytes * zs.length ≤ 281474976710656 := by rw [hz2]; omega
      have c2' : zs.length ≤ maxLen := by unfold maxLen; omega
      have le1 : zs.length ≤ ps.length := by omega
      have le2 : ps.length ≤ zs.length := by omega
      have ZLH := Lib.hid hlz
      clear hlz TL
      go_enter Try.func33, Try.ntmps33
      go_wp2_with fail
      rw [← hwa]
      clear hwa x0 x1
      refine (PC.out _ HBA.out).mono ?_
      rintro e w1 ⟨rfl, b1⟩
      have HB1 := Lib.hid (HBA.out.trans (b1.mono HBA.out.size))
      have HT1 := Lib.hid (T1.out.below b1 T1.out.lt)
      obtain ⟨x0, x1⟩ := HT1.out.cells
      clear b1
      go_wp2_with fail
      refine (DS.out _ HB1.out).mono ?_
      rintro e w2 ⟨u2, rfl, o2, b2⟩
      obtain ⟨gd, cd, rfl, hg1, hg2⟩ := o2.shape (by have := DLH.out; omega)
      have HB2 := Lib.hid (HB1.out.trans (b2.mono HB1.out.size))
      have HT2 := Lib.hid (HT1.out.below b2 HT1.out.lt)
      have DC := Lib.hid (fun j (hj : j < ps.length) => o2.cellGet (j := j) (by have := DLH.out; omega))
      have hw2 : w.heap.size < w2.heap.size := HT2.out.lt
      have HGD := Lib.hid hg2
      clear b2 o2 x0 x1 HB1 HT1 T1 HBA hg1 hg2
      obtain ⟨dl, hdl⟩ : ∃ dl, dl = DD.length := ⟨_, rfl⟩
      have le3 : dl ≤ ps.length := by omega
      have le4 : ps.length ≤ dl := by omega
      rw [← hdl]
      clear hdl DL
      go_wp2_with (at_make; refine wpList_make_full _ rfl _ _ 22 rfl w2.heap.size 3 i0 (.int .i64 0) 1 Try.underlying22 hi hz0 hz1 .i64 .i64 _ _ zs.length rfl rfl rfl rfl c1' c2' (Nat.le_refl _) ?_; intro w3 hown hg2)
      have hown1 : w3.ownsRow w2.heap.size 3 1 (.slice (some ⟨w2.heap.size, 0, none⟩) zs.length zs.length) zs.length (List.replicate zs.length (.int .i64 0)) := by
        have h2 := hown
        rw [show (Value.int .i64 0).cells = #[Value.int .i64 0] from rfl, Nat.mul_one, toList_madeCells_one] at h2
        exact h2
      have O2 := Lib.hid (OwnV.made hown1)
      have ZERO2 := ZERO.out
      rw [← ZLH.out] at ZERO2
      rw [← ZERO2] at O2
      have B2 := Lib.hid (HB2.out.grown hg2 HB2.out.size (fun q hq => by simp at hq))
      have BW := Lib.hid ((Below.refl w2.heap.size w2).grown hg2 (Nat.le_refl _) (fun q hq => by simp at hq))
      clear hown hown1 hg2 c1' c2' hi hz0 hz1 hz2 ZERO2 ZERO
      go_loopw [36] (fun i wr => ∃ k : Nat, k ≤ ps.length ∧ i = .int .i64 k ∧ Hid (OwnV wr w2.heap.size wr.heap.size (.slice (some ⟨w2.heap.size, 0, none⟩) zs.length zs.length) (fillH T k)) ∧ Hid (Below w2.heap.size w2 wr)) (fun i _ => ps.length - (intOf i).toNat)
      case atStart => exact ⟨0, Nat.zero_le _, rfl, O2, BW⟩
      case round =>
        obtain ⟨k, hk, rfl, HO, HB⟩ := hrel
        have HBX := Lib.hid (HB2.out.trans (HB.out.mono HB2.out.size))
        have HTX := Lib.hid (HT2.out.below HB.out HT2.out.lt)
        clear BW B2 O2
        by_cases hlt : k < ps.length
        · obtain ⟨bz, oz, hqz, hbz, hcz⟩ := Q1.out.get (i := k) (by omega)
          subst hqz
          have hz_k : wr.cell? ⟨bz, oz + k, none⟩ = some (.int .i64 (zs.getD k 0)) := by rw [HBX.out.cell (p := ⟨bz, oz + k, none⟩) hbz, hcz]
          have hdk : wr.cell? ⟨gd, k, none⟩ = some (.int .i64 (DD.getD k 0)) := by rw [HB.out.cell (p := ⟨gd, k, none⟩) HGD.out, DC.out k hlt]
          obtain ⟨z, hdz⟩ : ∃ z : Int, wr.cell? ⟨w2.heap.size, k, none⟩ = some (.int .i64 z) := ⟨_, HO.out.cellGet (by rw [FL.out, TLH.out]; omega)⟩
          have hfz : wr.frozen? ⟨w2.heap.size, k, none⟩ = false := HO.out.frozenGet k
          have at_ := AT.out k hlt
          have cb := CB.out k hlt
          have zb := ZB.out k (by omega)
          have se := SET.out k (by rw [TLH.out]; exact hlt)
          rw [at_] at se
          obtain ⟨dk, hdk2⟩ : ∃ t, t = DD.getD k 0 := ⟨_, rfl⟩
          obtain ⟨zk, hzk⟩ : ∃ t, t = zs.getD k 0 := ⟨_, rfl⟩
          rw [← hdk2] at hdk cb se
          rw [← hzk] at hz_k zb se
          clear at_ hcz hdk2 hzk hbz
          have O3 := Lib.hid (HO.out.setAt k (x := zk - c * dk) (by unfold InI64; omega))
          rw [se] at O3
          have B3 := Lib.hid (HB.out.setCell (p := ⟨w2.heap.size, k, none⟩) (by simp) (.int .i64 (zk - c * dk)))
          have i0' : (0 : Int) ≤ (k : Int) := by omega
          have i1' : (k : Int) < (ps.length : Int) := by omega
          have i2' : (k : Int) < (zs.length : Int) := by omega
          have i3' : (k : Int) < (dl : Int) := by omega
          have WR : IntKind.i64.wrap (c * dk) = c * dk := IntWalk.i64_in _ (by omega)
          have db1 : 0 ≤ c * dk ∧ c * dk ≤ 23976 := cb
          clear HO HB HBX HTX se cb
          go_wp2_with fail
          go_roundw
          case rel => exact ⟨k + 1, by omega, by go_num, Lib.hid (by simpa [World.setCell] using O3.out), B3⟩
          case measure => simp [intOf]; omega
        · obtain rfl : k = ps.length := by omega
          have HOT := HO.out
          rw [ALL.out _ (by rw [TLH.out]; omega)] at HOT
          obtain ⟨x0, x1⟩ := HTX.out.cells
          have TN : Hid (T.length = zs.length) := Lib.hid (by rw [TLH.out, ZLH.out])
          have IV : Hid (IntsV wr wr.heap.size (.slice (some ⟨w2.heap.size, 0, none⟩) zs.length zs.length) T) := Lib.hid HOT.intsV
          have HO2 := Lib.hid HOT
          have C := Lib.hid (PD2.out wr _ HBX.out IV.out)
          clear HOT HO
          cases hq : procB ps ws T
          · rw [hq] at C
            have SB := Lib.hid (show cosB ps ws zs c = false by rw [D.out, hq])
            have IS := Lib.hid (IN.out SB.out)
            clear hq D
            go_wp2_with fail
            refine C.out.mono ?_
            rintro e w4 ⟨rfl, b4⟩
            have HB4 := Lib.hid (HBX.out.trans (b4.mono HBX.out.size))
            clear b4
            go_wp2_with fail
            go_ret2
            rw [IS.out, SB.out]
            exact newInts_empty HB4.out
          · rw [hq] at C
            have SB := Lib.hid (show cosB ps ws zs c = true by rw [D.out, hq])
            have IS := Lib.hid (IY.out SB.out)
            clear hq D
            go_wp2_with fail
            refine C.out.mono ?_
            rintro e w4 ⟨rfl, b4⟩
            have FIN : Hid (NewIntsB T true w (.returned (.tuple #[.slice (some ⟨w2.heap.size, 0, none⟩) zs.length zs.length, .bool true])) w4) := Lib.hid ⟨_, rfl, ((HO2.out.below b4).wide b4.size (Nat.le_refl _)).low (by omega), HBX.out.trans (b4.mono HBX.out.size)⟩
            clear b4
            go_wp2_with fail
            go_ret2
            rw [IS.out, SB.out]
            exact FIN.out
    · rw [hp, Bool.true_and, decide_eq_false hc, Bool.false_and] at D
      rw [hp] at PC
      have IS := Lib.hid (ifCos_no D.out)
      rw [IS.out, D.out]
      clear hp D DS PD IS
      by_cases hc0 : c < 0
      · clear hc
        go_enter Try.func33, Try.ntmps33
        go_wp2_with fail
        rw [← hwa]
        clear hwa x0 x1
        refine (PC.out _ HBA.out).mono ?_
        rintro e w1 ⟨rfl, b1⟩
        have HB1 := Lib.hid (HBA.out.trans (b1.mono HBA.out.size))
        clear b1
        go_wp2_with fail
        go_ret2
        exact newInts_empty HB1.out
      · have hc1 : c > 999 := by omega
        clear hc
        go_enter Try.func33, Try.ntmps33
        go_wp2_with fail
        rw [← hwa]
        clear hwa x0 x1
        refine (PC.out _ HBA.out).mono ?_
        rintro e w1 ⟨rfl, b1⟩
        have HB1 := Lib.hid (HBA.out.trans (b1.mono HBA.out.size))
        clear b1
        go_wp2_with fail
        go_ret2
        exact newInts_empty HB1.out
end Go.Proofs.Ytagljebfbacdhab
