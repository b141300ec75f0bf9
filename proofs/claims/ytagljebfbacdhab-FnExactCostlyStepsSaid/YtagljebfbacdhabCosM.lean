/- CostlySteps in the model. -/
import Derived.Test.YtagljebfbacdhabCosP
import Derived.Test.YtagljebfbacdhabPay4
import Derived.Test.YtagljebfbacdhabDepthS
import Derived.Test.YtagljebfbacdhabCutS
import Derived.IntWalk
import Derived.Deep.RegionLaw
import Derived.BigRegion
import Derived.Deep.AppendLies
namespace Go.Proofs.Ytagljebfbacdhab
open Go.RowKit
set_option linter.unusedVariables false
set_option maxRecDepth 100000 in
set_option maxHeartbeats 4000000 in
theorem cosM (ps ws zs : List Int) (c : Int) (v u1 : Value) (w : World) (hn1 : zs.length ≤ 1048576) (h : TreeV w w.heap.size v ps ws) (hu : IntsV w w.heap.size u1 zs) :
    Calls Try.prog 32 #[v, u1, .int .i64 c] w (NewIntsB (ifCos ps ws zs c) (cosB ps ws zs c) w) := by
  have PC := Lib.hid (fun w' (hb : Below w.heap.size w w') => pays4 ps ws zs v u1 w' hn1 (h.boxed hb) ((hu.below hb).more hb.size))
  have DS := Lib.hid (fun (gd : Good ps ws) w' (hb : Below w.heap.size w w') => depthsS ps ws v w' gd (h.boxed hb))
  have PD := Lib.hid (fun w' u2 (hb : Below w.heap.size w w') (hl : (cosT ps zs c).length ≤ 1048576) (hv : IntsV w' w'.heap.size u2 (cosT ps zs c)) => pays4 ps ws (cosT ps zs c) v u2 w' hl (h.boxed hb) hv)
  obtain ⟨p1, c1, p2, c2, rfl⟩ := h.shape
  clear h
  obtain ⟨q1, d1, rfl, _, _, _, j1⟩ := hu
  have Q1 := Lib.hid j1
  clear j1
  have B1 := ((Below.refl w.heap.size w).alloc (Nat.le_refl _) (.cells #[.slice p1 ps.length c1, .slice p2 ws.length c2] 28)).alloc (by simp) (.cells #[] 3)
  have T1 := Lib.hid (TBox.alloc (show TBox (w.alloc (.cells #[.slice p1 ps.length c1, .slice p2 ws.length c2] 28)) w.heap.size (.slice p1 ps.length c1) (.slice p2 ws.length c2) from alloc_heap w _) (.cells #[] 3))
  have O1 := Lib.hid (OwnV.empty (w.alloc (.cells #[.slice p1 ps.length c1, .slice p2 ws.length c2] 28)) (w.heap.size + 1) (by simp))
  rw [show (w.alloc (.cells #[.slice p1 ps.length c1, .slice p2 ws.length c2] 28)).heap.size = w.heap.size + 1 by simp] at O1
  obtain ⟨x0, x1⟩ := T1.out.cells
  obtain ⟨wa, hwa⟩ : ∃ wa, wa = (w.alloc (.cells #[.slice p1 ps.length c1, .slice p2 ws.length c2] 28)).alloc (.cells #[] 3) := ⟨_, rfl⟩
  have sz : wa.heap.size = w.heap.size + 2 := by rw [hwa]; simp
  rw [← hwa] at B1 T1 O1
  have HBA := Lib.hid B1
  have SZ := Lib.hid sz
  clear B1 sz
  have D : Hid (cosB ps ws zs c = (procB ps ws zs && (decide (0 ≤ c ∧ c ≤ 999) && procB ps ws (cosT ps zs c)))) := Lib.hid rfl
  have FAIL : Hid (∀ w1, Below wa.heap.size wa w1 → NewIntsB [] false w (.returned (.tuple #[.slice (some ⟨w.heap.size + 1, 0, none⟩) 0 0, .bool false])) w1) := Lib.hid (fun w1 b1 => ⟨_, rfl, ((O1.out.below b1).wide b1.size (Nat.le_refl _)).low (by omega), HBA.out.trans (b1.mono HBA.out.size)⟩)
  cases hp : procB ps ws zs
  · rw [hp] at PC D
    have SB := Lib.hid (show cosB ps ws zs c = false by rw [D.out, Bool.false_and])
    have IS := Lib.hid (ifCos_no SB.out)
    clear hp D DS PD
    rw [IS.out, SB.out]
    go_enter Try.func32, Try.ntmps32
    go_wp2_with fail
    rw [← hwa]
    clear hwa
    refine (PC.out _ HBA.out).mono ?_
    rintro e w1 ⟨rfl, b1⟩
    have FIN := Lib.hid (FAIL.out w1 b1)
    clear b1
    go_wp2_with fail
    go_ret2
    exact FIN.out
  · by_cases hc : 0 ≤ c ∧ c ≤ 999
    · have PR := procB_iff.1 hp
      have gd := PR.good
      rw [hp, Bool.true_and, decide_eq_true hc, Bool.true_and] at D
      rw [hp] at PC
      have DS2 := Lib.hid (DS.out gd)
      have I := Lib.hid (fun w => inS_true c 0 999 w hc)
      have hn := gd.n24
      have hn0 := gd.n1
      have hlz := PR.len
      have DLH := Lib.hid (depthsT_len ps)
      have TL := cosT_len ps zs c
      have TLH := Lib.hid TL
      have CB := Lib.hid (fun (x : Nat) (hx : x < ps.length) => cos_bd PR hc hx)
      have ZB := Lib.hid PR.bd
      have TK := Lib.hid (fun (k : Nat) (hk : k < ps.length) => cosT_take (zs := zs) (c := c) hk)
      have PD2 := Lib.hid (fun w' u2 hb hv => PD.out w' u2 hb (by omega) hv)
      have IY := Lib.hid (fun h => ifCos_yes (ps := ps) (ws := ws) (zs := zs) (c := c) h)
      have IN := Lib.hid (fun h => ifCos_no (ps := ps) (ws := ws) (zs := zs) (c := c) h)
      obtain ⟨hc0, hc1⟩ := hc
      clear hp PR gd PD DS
      obtain ⟨T, hT⟩ : ∃ T, T = cosT ps zs c := ⟨_, rfl⟩
      rw [← hT] at TL TLH TK PD2 D IY
      clear hT
      obtain ⟨DD, hDD⟩ : ∃ DD, DD = depthsT ps := ⟨_, rfl⟩
      rw [← hDD] at DS2 DLH CB TK
      clear hDD
      obtain ⟨i0, hi, hz0, hz1, hz2⟩ := info_parts intInfo
      have le1 : zs.length ≤ ps.length := by omega
      have le2 : ps.length ≤ zs.length := by omega
      clear hlz TL
      go_enter Try.func32, Try.ntmps32
      go_wp2_with fail
      rw [← hwa]
      clear hwa x0 x1
      refine (PC.out _ HBA.out).mono ?_
      rintro e w1 ⟨rfl, b1⟩
      have HB1 := Lib.hid (HBA.out.trans (b1.mono HBA.out.size))
      have HT1 := Lib.hid (T1.out.below b1 T1.out.lt)
      have HO1 := Lib.hid ((O1.out.below b1).wide b1.size (Nat.le_refl _))
      have SZ1 := Lib.hid (show w.heap.size + 2 ≤ w1.heap.size from by have := SZ.out; have := b1.size; omega)
      obtain ⟨x0, x1⟩ := HT1.out.cells
      clear b1
      go_wp2_with fail
      refine (I.out _).mono ?_
      rintro e w9 ⟨rfl, rfl⟩
      go_wp2_with fail
      refine (DS2.out _ HB1.out).mono ?_
      rintro e w2 ⟨u2, rfl, o2, b2⟩
      obtain ⟨gd, cd, rfl, hg1, hg2⟩ := o2.shape (by have := DLH.out; omega)
      have HB2 := Lib.hid (HB1.out.trans (b2.mono HB1.out.size))
      have HT2 := Lib.hid (HT1.out.below b2 HT1.out.lt)
      have HO2 := Lib.hid ((HO1.out.below b2).wide b2.size (Nat.le_refl _))
      have DC := Lib.hid (fun j (hj : j < ps.length) => o2.cellGet (j := j) (by have := DLH.out; omega))
      have HGD := Lib.hid hg2
      have HGL := Lib.hid (show w.heap.size + 2 ≤ gd from by have := SZ1.out; omega)
      clear b2 o2 x0 x1 HB1 HT1 T1 HBA hg1 hg2 HO1
      obtain ⟨dl, hdl⟩ : ∃ dl, dl = DD.length := ⟨_, rfl⟩
      have le3 : dl ≤ ps.length := by have := DLH.out; omega
      have le4 : ps.length ≤ dl := by have := DLH.out; omega
      rw [← hdl]
      clear hdl
      go_wp2_with fail
      go_loopw [8, 10] (fun o i wr => ∃ k go co : Nat, k ≤ ps.length ∧ i = .int .i64 k ∧ o = .slice (some ⟨go, 0, none⟩) (T.take k).length co ∧ Hid (OwnV wr (w.heap.size + 1) wr.heap.size (.slice (some ⟨go, 0, none⟩) (T.take k).length co) (T.take k)) ∧ Hid (go ≠ gd) ∧ Hid (∀ j, j < ps.length → wr.cell? ⟨gd, j, none⟩ = some (.int .i64 (DD.getD j 0))) ∧ Hid (gd < wr.heap.size) ∧ Hid (TBox wr w.heap.size (.slice p1 ps.length c1) (.slice p2 ws.length c2)) ∧ Hid (Below w.heap.size w wr)) (fun _ i _ => ps.length - (intOf i).toNat)
      case atStart => exact ⟨0, _, _, Nat.zero_le _, rfl, rfl, HO2, Lib.hid (by have := HGL.out; omega), DC, HGD, HT2, HB2⟩
      case round =>
        clear HO2 HT2 HB2 DC HGD
        obtain ⟨k, go, co, hk, rfl, rfl, HO, HQ, HD, HG, HT, HB⟩ := hrel
        obtain ⟨x0, x1⟩ := HT.out.cells
        by_cases hlt : k < ps.length
        · obtain ⟨bz, oz, hqz, hbz, hcz⟩ := Q1.out.get (i := k) (by omega)
          subst hqz
          have hz_k : wr.cell? ⟨bz, oz + k, none⟩ = some (.int .i64 (zs.getD k 0)) := by rw [HB.out.cell (p := ⟨bz, oz + k, none⟩) hbz, hcz]
          have hdk := HD.out k hlt
          have cb := CB.out k hlt
          have zb := ZB.out k (by omega)
          have E := Lib.hid (TK.out k hlt)
          obtain ⟨dk, hdk2⟩ : ∃ t, t = DD.getD k 0 := ⟨_, rfl⟩
          obtain ⟨zk, hzk⟩ : ∃ t, t = zs.getD k 0 := ⟨_, rfl⟩
          rw [← hdk2] at hdk cb E
          rw [← hzk] at hz_k zb E
          have lk : (T.take k).length = k := by rw [List.length_take, TLH.out]; omega
          obtain ⟨L, hL⟩ : ∃ L, L = T.take k := ⟨_, rfl⟩
          rw [← hL] at HO E lk ⊢
          have IX := Lib.hid (show InI64 (zk - c * dk) by unfold InI64; omega)
          have i0' : (0 : Int) ≤ (k : Int) := by omega
          have i1' : (k : Int) < (ps.length : Int) := by omega
          have i2' : (k : Int) < (zs.length : Int) := by omega
          have i3' : (k : Int) < (dl : Int) := by omega
          have le5 : L.length ≤ k := by omega
          have le6 : k ≤ L.length := by omega
          have WE : Hid ((IntKind.i64.wrap (zk - IntKind.i64.wrap (c * dk))) = zk - c * dk) := Lib.hid (by rw [IntWalk.i64_in (c * dk) (by omega), IntWalk.i64_in _ (by omega)])
          have hown := HO.out.row
          have hsz := HT.out.lt
          have hgl := HG.out
          clear cb lk hcz hdk2 hzk hbz hL zb
          have HOD := Lib.hid ((HO.out.below (below_drew (Below.refl _ _))).wide (Below.size (below_drew (Below.refl wr.heap.size wr))) (Nat.le_refl _))
          have hsd : w.heap.size < wr.drew.heap.size := hsz
          have HOA : Hid ((wr.alloc (.cells #[.int .i64 (IntKind.i64.wrap (zk - IntKind.i64.wrap (c * dk)))] 3)).drew.ownsRow (w.heap.size + 1) 3 1 (.slice (some ⟨go, 0, none⟩) L.length co) L.length (L.map (.int .i64))) := Lib.hid (HO.out.row.alloc _)
          have HNA : Hid (∀ j u, [Value.int .i64 (IntKind.i64.wrap (zk - IntKind.i64.wrap (c * dk)))][j]? = some u → (wr.alloc (.cells #[.int .i64 (IntKind.i64.wrap (zk - IntKind.i64.wrap (c * dk)))] 3)).drew.cell? ((⟨wr.heap.size, 0, none⟩ : Addr).add j) = some u) := Lib.hid (cell_one_new wr _ 3)
          clear hown
          go_wp2_with fail
          go_region_law (refine step_append_lies _ rfl _ _ 22 rfl (w.heap.size + 1) 3 i0 (.int .i64 0) 1 8 Try.underlying22 hi hz0 hz1 hz2 rfl (by decide) _ L.length (L.map (.int .i64)) rfl HOA.out ⟨wr.heap.size, 0, none⟩ 1 1 [.int .i64 (IntKind.i64.wrap (zk - IntKind.i64.wrap (c * dk)))] rfl rfl HNA.out (fun u hu => by simp at hu; subst hu; rfl) (by omega) (by unfold maxLen; omega) (by omega) (by simp; omega) _ rfl ?_; intro g4 cap4 w4 hown3 hgrow3 hat3 hlt3)
          all_goals
            rw [WE.out] at hown3 hgrow3
            have own3 := Lib.hid (HOD.out.app IX.out hown3)
            have bel3 := Lib.hid ((below_drew (HB.out.alloc HB.out.size _)).grown hgrow3 (by simp; omega) (fun q hq => by have := (HOA.out.lt q hq).1; omega))
            have box3 := Lib.hid (((HT.out.alloc (.cells #[.int .i64 (zk - c * dk)] 3)).below (below_drew (Below.refl _ _)) (HT.out.alloc (.cells #[.int .i64 (zk - c * dk)] 3)).lt).grown hgrow3 (fun q hq => (HOA.out.lt q hq).1) (by omega))
            have q3 : Hid (g4 ≠ gd) := Lib.hid (by
              rcases hat3 with h | h
              · have h' : (some go : Option Nat) = some g4 := h
                injection h' with h'; have := HQ.out; omega
              · simp at h; omega)
            have d3 : Hid (∀ j, j < ps.length → w4.cell? ⟨gd, j, none⟩ = some (.int .i64 (DD.getD j 0))) := Lib.hid (fun j hj => by
              rw [ne_grown hgrow3 (by simp; omega) (fun q hq => by have h' : (some go : Option Nat) = some q := hq; injection h' with h'; have := HQ.out; omega)]
              show (wr.alloc _).cell? _ = _
              rw [World.cell?_alloc_lt _ _ _ (by exact hgl)]; exact HD.out j hj)
            have g3 : Hid (gd < w4.heap.size) := Lib.hid (by have := hgrow3.size; simp at this; omega)
            clear hown3 hgrow3 hat3 hlt3
            go_wp2_with fail
            go_roundw
            case rel => exact ⟨k + 1, _, _, by omega, by go_num, by rw [E.out]; simp; rfl, Lib.hid (by rw [E.out]; simpa using own3.out), q3, d3, g3, box3, bel3⟩
            case measure => simp [intOf]; omega
        · have hkn : k = ps.length := by omega
          have HOT := HO.out
          rw [List.take_of_length_le (by rw [TLH.out]; omega)] at HOT ⊢
          have IV : Hid (IntsV wr wr.heap.size (.slice (some ⟨go, 0, none⟩) T.length co) T) := Lib.hid HOT.intsV
          have HO2 := Lib.hid HOT
          have C := Lib.hid (PD2.out wr _ HB.out IV.out)
          obtain ⟨tl, htl⟩ : ∃ tl, tl = T.length := ⟨_, rfl⟩
          rw [← htl] at C HO2
          clear HOT HO hkn
          have i2' : ¬ (k : Int) < (zs.length : Int) := by omega
          rw [← htl]
          cases hq : procB ps ws T
          · rw [hq] at C
            have SB := Lib.hid (show cosB ps ws zs c = false by rw [D.out, hq])
            have IS := Lib.hid (IN.out SB.out)
            clear hq D htl
            go_wp2_with fail
            refine C.out.mono ?_
            rintro e w4 ⟨rfl, b4⟩
            have HB4 := Lib.hid (HB.out.trans (b4.mono HB.out.size))
            clear b4
            go_wp2_with fail
            go_ret2
            rw [IS.out, SB.out]
            exact newInts_empty HB4.out
          · rw [hq] at C
            have SB := Lib.hid (show cosB ps ws zs c = true by rw [D.out, hq])
            have IS := Lib.hid (IY.out SB.out)
            clear hq D htl
            go_wp2_with fail
            refine C.out.mono ?_
            rintro e w4 ⟨rfl, b4⟩
            have FIN : Hid (NewIntsB T true w (.returned (.tuple #[.slice (some ⟨go, 0, none⟩) tl co, .bool true])) w4) := Lib.hid ⟨_, rfl, ((HO2.out.below b4).wide b4.size (Nat.le_refl _)).low (by omega), HB.out.trans (b4.mono HB.out.size)⟩
            clear b4
            go_wp2_with fail
            go_ret2
            rw [IS.out, SB.out]
            exact FIN.out
    · have I := Lib.hid (fun w => inS_false c 0 999 w hc)
      rw [hp, Bool.true_and, decide_eq_false hc, Bool.false_and] at D
      rw [hp] at PC
      have IS := Lib.hid (ifCos_no D.out)
      rw [IS.out, D.out]
      clear hp D DS PD IS hc
      go_enter Try.func32, Try.ntmps32
      go_wp2_with fail
      rw [← hwa]
      clear hwa
      refine (PC.out _ HBA.out).mono ?_
      rintro e w1 ⟨rfl, b1⟩
      have FIN := Lib.hid (FAIL.out w1 b1)
      clear b1
      go_wp2_with fail
      refine (I.out _).mono ?_
      rintro e w9 ⟨rfl, rfl⟩
      go_wp2_with fail
      go_ret2
      exact FIN.out
end Go.Proofs.Ytagljebfbacdhab
