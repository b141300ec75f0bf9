/- Holdings and wealth, in the model. -/
import Derived.Test.YtamneibnjbimeaaMktM
import Derived.Test.YtamneibnjbimeaaWthI
import Derived.Deep.AppendLies
import Derived.BigRegion
import Derived.Deep.RegionLaw
import Derived.Deep.RegionHeld3
import Derived.Test.YtamneibnjbimeaaHeldMore
namespace Go.Proofs.Ytamneibnjbimeaa
open Go.RowKit
set_option linter.unusedVariables false
theorem ne_grownB {w w3 : World} {r : Option Nat} {g : Nat} (hg : w.grownBy w3 r) (hs : g < w.heap.size) (hne : ∀ q, r = some q → q ≠ g) (o : Nat) : w3.cell? ⟨g, o, none⟩ = w.cell? ⟨g, o, none⟩ :=
  hg.cell_far ⟨g, o, none⟩ hs (fun e => hne g e.symm rfl)
set_option maxRecDepth 100000 in
set_option maxHeartbeats 4000000 in
theorem holdsS (ps ws cs hs : List Int) (a : Int) (v u : Value) (w : World) (hn : cs.length ≤ 1048576) (hn1 : hs.length ≤ 1048576) (h : MktV w w.heap.size v ps ws cs) (hu : IntsV w w.heap.size u hs) :
    Calls Try.prog 47 #[v, .int .i64 a, u] w (Gives (.bool (startB a && holdB ps ws cs hs)) w) := by
  have G := Lib.hid (fun w' (hb : Below w.heap.size w w') => mktS ps ws cs v w' hn (h.boxed hb))
  obtain ⟨v1, v2, v3, rfl, ⟨p1, c1, rfl, l1, m1, _, i1⟩, ⟨p2, c2, rfl, l2, m2, _, i2⟩, ⟨p3, c3, rfl, l3, m3, _, i3⟩⟩ := h
  have P2 := Lib.hid i2
  clear i1 i2 i3 m1 m2 m3
  obtain ⟨q1, d1, rfl, _, _, _, j1⟩ := hu
  have Q1 := Lib.hid j1
  clear j1
  have B1 := (Below.refl w.heap.size w).alloc (Nat.le_refl _) (.cells #[.slice p1 ps.length c1, .slice p2 ws.length c2, .slice p3 cs.length c3] 31)
  have T1 := Lib.hid (show KBox (w.alloc (.cells #[.slice p1 ps.length c1, .slice p2 ws.length c2, .slice p3 cs.length c3] 31)) w.heap.size (.slice p1 ps.length c1) (.slice p2 ws.length c2) (.slice p3 cs.length c3) from alloc_heap w _)
  obtain ⟨wa, hwa⟩ : ∃ wa, wa = w.alloc (.cells #[.slice p1 ps.length c1, .slice p2 ws.length c2, .slice p3 cs.length c3] 31) := ⟨_, rfl⟩
  rw [← hwa] at B1 T1
  have HBA := Lib.hid B1
  clear B1
  obtain ⟨x0, x1, x2⟩ := T1.out.cells
  have D : Hid (holdB ps ws cs hs = (goodM ps ws cs && (decide (hs.length = cs.length) && (withinB 99 hs && zeroE ws hs cs.length)))) := Lib.hid rfl
  cases hg : goodM ps ws cs
  · rw [hg, Bool.false_and] at D
    rw [hg] at G
    clear hg
    go_enter Try.func47, Try.ntmps47
    go_wp2_with fail
    rw [← hwa]
    clear hwa
    refine (G.out _ HBA.out).mono ?_
    rintro e w1 ⟨rfl, b1⟩
    have HB1 := Lib.hid (HBA.out.trans (b1.mono HBA.out.size))
    clear b1
    go_wp2_with fail
    go_ret
    exact ⟨ret_b (by rw [D.out, Bool.and_false]), HB1.out⟩
  · have MK := Lib.hid (goodM_iff.1 hg)
    rw [hg, Bool.true_and] at D
    rw [hg] at G
    clear hg
    have DS : Hid (startB a = decide (-999 ≤ a ∧ a ≤ 999)) := Lib.hid rfl
    by_cases ha : -999 ≤ a ∧ a ≤ 999
    · rw [decide_eq_true ha] at DS
      have I := Lib.hid (fun w => inS_true a (-999) 999 w ha)
      clear ha
      by_cases hl : hs.length = cs.length
      · rw [decide_eq_true hl, Bool.true_and] at D
        have hwl := MK.out.good.nw
        have hcl := MK.out.len
        have t1 : ((hs.length : Int) != (cs.length : Int)) = false := by simpa using (show (hs.length : Int) = (cs.length : Int) by omega)
        have le1 : hs.length ≤ cs.length := by omega
        have le2 : cs.length ≤ hs.length := by omega
        have le3 : ws.length ≤ cs.length := by omega
        have le4 : cs.length ≤ ws.length := by omega
        clear hl hwl hcl
        go_enter Try.func47, Try.ntmps47
        go_wp2_with fail
        rw [← hwa]
        clear hwa
        refine (G.out _ HBA.out).mono ?_
        rintro e w1 ⟨rfl, b1⟩
        have HB1 := Lib.hid (HBA.out.trans (b1.mono HBA.out.size))
        have HT1 := Lib.hid (T1.out.below b1 T1.out.lt)
        obtain ⟨y0, y1, y2⟩ := HT1.out.cells
        clear b1 x0 x1 x2 T1 HBA G
        go_wp2_with fail
        refine (I.out _).mono ?_
        rintro e w2 ⟨rfl, rfl⟩
        clear I
        go_wp2_with fail
        go_loopw [7] (fun i wr => ∃ k : Nat, k ≤ hs.length ∧ i = .int .i64 k ∧ Hid (∀ j, j < k → (-99 ≤ hs.getD j 0 ∧ hs.getD j 0 ≤ 99) ∧ heldE ws hs j = false) ∧ ∃ n, wr = w1.drewN n) (fun i _ => hs.length - (intOf i).toNat)
        case atStart => exact ⟨0, Nat.zero_le _, rfl, Lib.hid (fun j hj => by omega), 0, rfl⟩
        case round =>
          obtain ⟨k, hk, rfl, HA, n, rfl⟩ := hrel
          have z0 : (w1.drewN n).cell? ⟨w.heap.size, 0, none⟩ = some (.slice p1 ps.length c1) := y0
          have z1 : (w1.drewN n).cell? ⟨w.heap.size, 1, none⟩ = some (.slice p2 ws.length c2) := y1
          by_cases hlt : k < hs.length
          · obtain ⟨b, off, rfl, hb, hc⟩ := Q1.out.get hlt
            obtain ⟨b2, off2, rfl, hb2, hc2⟩ := P2.out.get (i := k) (by omega)
            have hcw : w1.cell? ⟨b, off + k, none⟩ = some (.int .i64 (hs.getD k 0)) := by rw [HB1.out.cell (p := ⟨b, off + k, none⟩) hb]; exact hc
            have hc2w : w1.cell? ⟨b2, off2 + k, none⟩ = some (.int .i64 (ws.getD k 0)) := by rw [HB1.out.cell (p := ⟨b2, off2 + k, none⟩) hb2]; exact hc2
            have i0 : (0 : Int) ≤ (k : Int) := by omega
            have i1 : (k : Int) < (hs.length : Int) := by omega
            have i2 : (k : Int) < (ws.length : Int) := by omega
            have NO := Lib.hid (within_no (m := 99) hlt)
            have NZ := Lib.hid (zeroE_no (ws := ws) (hs := hs) (n := cs.length) (x := k) (by omega))
            have DH : Hid (heldE ws hs k = (decide (0 < ws.getD k 0) && (hs.getD k 0 != 0))) := Lib.hid rfl
            have NX : Hid ((-99 ≤ hs.getD k 0 ∧ hs.getD k 0 ≤ 99) ∧ heldE ws hs k = false → ∀ j, j < k + 1 → (-99 ≤ hs.getD j 0 ∧ hs.getD j 0 ≤ 99) ∧ heldE ws hs j = false) := Lib.hid (fun h j hj => by
              rcases Nat.lt_or_ge j k with h' | h'
              · exact HA.out j h'
              · obtain rfl : j = k := by omega
                exact h)
            obtain ⟨z, hz⟩ : ∃ z, z = hs.getD k 0 := ⟨_, rfl⟩
            obtain ⟨y, hy⟩ : ∃ y, y = ws.getD k 0 := ⟨_, rfl⟩
            rw [← hz] at hcw NO NX DH
            rw [← hy] at hc2w DH
            clear hc hc2 hz hy HA
            by_cases hin : -99 ≤ z ∧ z ≤ 99
            · have I := Lib.hid (fun w => inS_true z (-99) 99 w hin)
              have N2 := Lib.hid (fun h => NX.out ⟨hin, h⟩)
              clear NX NO hin
              by_cases hy : 0 < y
              · rw [decide_eq_true hy] at DH
                by_cases hz : z = 0
                · subst hz
                  have N3 := Lib.hid (N2.out (by rw [DH.out]; rfl))
                  clear N2 NZ
                  go_wp2_with fail
                  refine (I.out _).mono ?_
                  rintro e w3 ⟨rfl, rfl⟩
                  go_wp2_with fail
                  go_roundw
                  case rel => exact ⟨k + 1, by omega, by go_num, N3, _, rfl⟩
                  case measure => simp [intOf]; omega
                · have tz : (z != 0) = true := by simpa using hz
                  have R := Lib.hid (NZ.out (by rw [DH.out, tz]; rfl))
                  clear N2 NZ hz
                  go_wp2_with fail
                  refine (I.out _).mono ?_
                  rintro e w3 ⟨rfl, rfl⟩
                  go_wp2_with fail
                  go_ret
                  exact ⟨ret_b (by rw [DS.out, D.out, R.out, Bool.and_false]; rfl), below_drewN HB1.out n⟩
              · rw [decide_eq_false hy] at DH
                have N3 := Lib.hid (N2.out (by rw [DH.out]; rfl))
                clear N2 NZ
                go_wp2_with fail
                refine (I.out _).mono ?_
                rintro e w3 ⟨rfl, rfl⟩
                go_wp2_with fail
                go_roundw
                case rel => exact ⟨k + 1, by omega, by go_num, N3, _, rfl⟩
                case measure => simp [intOf]; omega
            · have I := Lib.hid (fun w => inS_false z (-99) 99 w hin)
              have R := Lib.hid (NO.out hin)
              clear NX NO hin NZ
              go_wp2_with fail
              refine (I.out _).mono ?_
              rintro e w3 ⟨rfl, rfl⟩
              go_wp2_with fail
              go_ret
              exact ⟨ret_b (by rw [DS.out, D.out, R.out]; rfl), below_drewN HB1.out n⟩
          · have WI : Hid (withinB 99 hs = true) := Lib.hid (within_yes (fun i hi => (HA.out i (by omega)).1))
            have ZI : Hid (zeroE ws hs cs.length = true) := Lib.hid (zeroE_iff.2 (fun i hi => (HA.out i (by omega)).2))
            clear HA
            go_wp2_with fail
            go_ret
            exact ⟨ret_b (by rw [DS.out, D.out, WI.out, ZI.out]; rfl), below_drewN HB1.out n⟩
      · rw [decide_eq_false hl, Bool.false_and] at D
        have t1 : ((hs.length : Int) != (cs.length : Int)) = true := by simpa using (show ¬ (hs.length : Int) = (cs.length : Int) by omega)
        clear hl
        go_enter Try.func47, Try.ntmps47
        go_wp2_with fail
        rw [← hwa]
        clear hwa
        refine (G.out _ HBA.out).mono ?_
        rintro e w1 ⟨rfl, b1⟩
        have HB1 := Lib.hid (HBA.out.trans (b1.mono HBA.out.size))
        have HT1 := Lib.hid (T1.out.below b1 T1.out.lt)
        obtain ⟨y0, y1, y2⟩ := HT1.out.cells
        clear b1 x0 x1 x2
        go_wp2_with fail
        refine (I.out _).mono ?_
        rintro e w2 ⟨rfl, rfl⟩
        go_wp2_with fail
        go_ret
        exact ⟨ret_b (by rw [D.out, Bool.and_false]), HB1.out⟩
    · rw [decide_eq_false ha] at DS
      have I := Lib.hid (fun w => inS_false a (-999) 999 w ha)
      clear ha
      go_enter Try.func47, Try.ntmps47
      go_wp2_with fail
      rw [← hwa]
      clear hwa
      refine (G.out _ HBA.out).mono ?_
      rintro e w1 ⟨rfl, b1⟩
      have HB1 := Lib.hid (HBA.out.trans (b1.mono HBA.out.size))
      have HT1 := Lib.hid (T1.out.below b1 T1.out.lt)
      obtain ⟨y0, y1, y2⟩ := HT1.out.cells
      clear b1 x0 x1 x2
      go_wp2_with fail
      refine (I.out _).mono ?_
      rintro e w2 ⟨rfl, rfl⟩
      go_wp2_with fail
      go_ret
      exact ⟨ret_b (by rw [DS.out, Bool.false_and]), HB1.out⟩
set_option maxRecDepth 100000 in
set_option maxHeartbeats 4000000 in
theorem wlMS (ps ws cs hs T : List Int) (a : Int) (v u : Value) (w : World) (hn0 : 1 ≤ ps.length) (hn24 : ps.length ≤ 24) (le1 : cs.length ≤ ps.length) (le2 : ps.length ≤ cs.length) (le3 : hs.length ≤ ps.length) (le4 : ps.length ≤ hs.length) (ha64 : InI64 a) (fc : WlFacts ps cs hs a T) (h : MktV w w.heap.size v ps ws cs) (hu : IntsV w w.heap.size u hs) :
    Calls Try.prog 48 #[v, .int .i64 a, u] w (NewInts T w) := by
  have FC := Lib.hid fc
  have HI := Lib.hid ha64
  clear fc ha64
  obtain ⟨v1, v2, v3, rfl, ⟨p1, c1, rfl, l1, m1, _, i1⟩, ⟨p2, c2, rfl, l2, m2, _, i2⟩, ⟨p3, c3, rfl, l3, m3, _, i3⟩⟩ := h
  have P1 := Lib.hid i1
  have P3 := Lib.hid i3
  clear i1 i2 i3 m1 m2 m3
  obtain ⟨q1, d1, rfl, _, _, _, j1⟩ := hu
  have Q1 := Lib.hid j1
  clear j1
  have B1 := Lib.hid ((Below.refl w.heap.size w).alloc (Nat.le_refl _) (.cells #[.slice p1 ps.length c1, .slice p2 ws.length c2, .slice p3 cs.length c3] 31))
  have T1 := Lib.hid (show KBox (w.alloc (.cells #[.slice p1 ps.length c1, .slice p2 ws.length c2, .slice p3 cs.length c3] 31)) w.heap.size (.slice p1 ps.length c1) (.slice p2 ws.length c2) (.slice p3 cs.length c3) from alloc_heap w _)
  have B2 := Lib.hid (B1.out.alloc B1.out.size (.cells #[.int .i64 a] 3))
  have T2 := Lib.hid (T1.out.alloc (.cells #[.int .i64 a] 3))
  have O2 := Lib.hid (OwnV.single (w.alloc (.cells #[.slice p1 ps.length c1, .slice p2 ws.length c2, .slice p3 cs.length c3] 31)) (w.heap.size + 1) a (by simp) HI.out)
  rw [show (w.alloc (.cells #[.slice p1 ps.length c1, .slice p2 ws.length c2, .slice p3 cs.length c3] 31)).heap.size = w.heap.size + 1 by simp] at O2
  clear B1 T1
  obtain ⟨i0, hi, hz0, hz1, hz2⟩ := info_parts intInfo
  go_enter Try.func48, Try.ntmps48
  go_wp2_with fail
  go_loopw [7, 8] (fun o i wr => ∃ k : Nat, 1 ≤ k ∧ k ≤ ps.length ∧ i = .int .i64 k ∧ Hid (OwnV wr (w.heap.size + 1) wr.heap.size o (T.take k)) ∧ Hid (KBox wr w.heap.size (.slice p1 ps.length c1) (.slice p2 ws.length c2) (.slice p3 cs.length c3)) ∧ Hid (Below w.heap.size w wr)) (fun _ i _ => ps.length - (intOf i).toNat)
  case atStart => exact ⟨1, Nat.le_refl _, hn0, rfl, Lib.hid (by rw [FC.out.one]; exact O2.out), T2, B2⟩
  case round =>
    obtain ⟨k, hk1, hk, rfl, HO, HT, HB⟩ := hrel
    obtain ⟨x0, x1, x2⟩ := HT.out.cells
    clear T2 B2 O2
    by_cases hlt : k < ps.length
    · obtain ⟨b, off, rfl, hb, hc⟩ := P1.out.get hlt
      obtain ⟨g1, g2⟩ := FC.out.par k (by omega) hlt
      obtain ⟨j, hj⟩ : ∃ j : Nat, ps.getD k 0 = (j : Int) := ⟨(ps.getD k 0).toNat, by omega⟩
      have hjk : j < k := by omega
      have hcw : wr.cell? ⟨b, off + k, none⟩ = some (.int .i64 j) := by rw [HB.out.cell (p := ⟨b, off + k, none⟩) hb, hc, hj]
      obtain ⟨bz, oz, rfl, hbz, hcz⟩ := P3.out.get (i := k) (by omega)
      obtain ⟨bz', oz', ez, hbz', hcz'⟩ := P3.out.get (i := j) (by omega)
      obtain ⟨rfl, rfl⟩ : bz = bz' ∧ oz = oz' := by injection ez with ez; injection ez with e1 e2; exact ⟨e1, e2⟩
      obtain ⟨bk, ok, rfl, hbk, hck⟩ := Q1.out.get (i := j) (by omega)
      have hz_k : wr.cell? ⟨bz, oz + k, none⟩ = some (.int .i64 (cs.getD k 0)) := by rw [HB.out.cell (p := ⟨bz, oz + k, none⟩) hbz, hcz]
      have hz_j : wr.cell? ⟨bz, oz + j, none⟩ = some (.int .i64 (cs.getD j 0)) := by rw [HB.out.cell (p := ⟨bz, oz + j, none⟩) hbz, hcz']
      have hk_j : wr.cell? ⟨bk, ok + j, none⟩ = some (.int .i64 (hs.getD j 0)) := by rw [HB.out.cell (p := ⟨bk, ok + j, none⟩) hbk, hck]
      have TL := FC.out.len
      have LT : (T.take k).length = k := by rw [List.length_take]; omega
      obtain ⟨g, cap, rfl, hg1, hg2⟩ := HO.out.shape (by omega)
      have hdj : wr.cell? ⟨g, j, none⟩ = some (.int .i64 (T.getD j 0)) := by
        rw [HO.out.cellGet (by omega), FC.out.at_ j k hjk]
      have st := FC.out.step k (by omega) hlt
      have db := FC.out.dbd k (by omega) hlt
      have gb := FC.out.bd j (by omega)
      have zb1 := FC.out.cbd k (by omega)
      have zb2 := FC.out.cbd j (by omega)
      have se := FC.out.next k (by omega)
      have gj : j * 1980 ≤ 23 * 1980 := Nat.mul_le_mul_right _ (by omega)
      rw [hj, Int.toNat_natCast] at st db
      rw [st] at se
      obtain ⟨L, hL⟩ : ∃ L, L = T.take k := ⟨_, rfl⟩
      rw [← hL] at HO LT se
      obtain ⟨tj, htj⟩ : ∃ t, t = T.getD j 0 := ⟨_, rfl⟩
      obtain ⟨ah, hah⟩ : ∃ t, t = hs.getD j 0 := ⟨_, rfl⟩
      obtain ⟨y1, hy1⟩ : ∃ t, t = cs.getD k 0 := ⟨_, rfl⟩
      obtain ⟨y2, hy2⟩ : ∃ t, t = cs.getD j 0 := ⟨_, rfl⟩
      rw [← htj] at hdj gb se
      rw [← hah] at hk_j db se
      rw [← hy1] at hz_k db se zb1
      rw [← hy2] at hz_j db se zb2
      have SE := Lib.hid se
      have NI := Lib.hid (show InI64 (tj + ah * (y1 - y2)) by unfold InI64; omega)
      rw [← hL]
      have le5 : L.length ≤ k := by omega
      have le6 : k ≤ L.length := by omega
      clear st hc hcz hcz' hck ez hj htj hah hy1 hy2 g1 g2 hL se TL
      have hsz := HT.out.lt
      have i0' : (0 : Int) ≤ (k : Int) := by omega
      have i1' : (k : Int) < (ps.length : Int) := by omega
      have i2' : (k : Int) < (cs.length : Int) := by omega
      have j0 : (0 : Int) ≤ (j : Int) := by omega
      have j1 : (j : Int) < (cs.length : Int) := by omega
      have j2 : (j : Int) < (hs.length : Int) := by omega
      have j3 : (j : Int) < (L.length : Int) := by omega
      clear LT
      have db1 : -1980 ≤ ah * (y1 - y2) ∧ ah * (y1 - y2) ≤ 1980 := by omega
      have WR : IntKind.i64.wrap (ah * (y1 - y2)) = ah * (y1 - y2) := IntWalk.i64_in _ (by omega)
      clear db
      have HOD := Lib.hid ((HO.out.below (below_drew (Below.refl _ _))).wide (Below.size (below_drew (Below.refl wr.heap.size wr))) (Nat.le_refl _))
      have HBD := Lib.hid (below_drew HB.out)
      have HTD := Lib.hid (HT.out.below (below_drew (Below.refl _ _)) HT.out.lt)
      have hsd : w.heap.size < wr.drew.heap.size := hsz
      have HOA : Hid ((wr.drew.alloc (.cells #[.int .i64 (tj + ah * (y1 - y2))] 3)).ownsRow (w.heap.size + 1) 3 1 (.slice (some ⟨g, 0, none⟩) L.length cap) L.length (L.map (.int .i64))) := Lib.hid (HOD.out.row.alloc _)
      have HNA : Hid (∀ j u, [Value.int .i64 (tj + ah * (y1 - y2))][j]? = some u → (wr.drew.alloc (.cells #[.int .i64 (tj + ah * (y1 - y2))] 3)).cell? ((⟨wr.drew.heap.size, 0, none⟩ : Addr).add j) = some u) := Lib.hid (cell_one_new wr.drew _ 3)
      have KK : Hid (∀ w9, Below wr.heap.size wr w9 → w9.cell? ⟨w.heap.size, 2, none⟩ = some (.slice (some ⟨bz, oz, none⟩) cs.length c3) ∧ w9.cell? ⟨bk, ok + j, none⟩ = some (.int .i64 ah) ∧ w9.cell? ⟨bz, oz + k, none⟩ = some (.int .i64 y1) ∧ w9.cell? ⟨bz, oz + j, none⟩ = some (.int .i64 y2)) := Lib.hid (fun w9 h9 => ⟨(h9.cell (p := ⟨w.heap.size, 2, none⟩) (show w.heap.size < wr.heap.size from HT.out.lt)).trans x2, (h9.cell (p := ⟨bk, ok + j, none⟩) (show bk < wr.heap.size from Nat.lt_of_lt_of_le hbk HB.out.size)).trans hk_j, (h9.cell (p := ⟨bz, oz + k, none⟩) (show bz < wr.heap.size from Nat.lt_of_lt_of_le hbz HB.out.size)).trans hz_k, (h9.cell (p := ⟨bz, oz + j, none⟩) (show bz < wr.heap.size from Nat.lt_of_lt_of_le hbz HB.out.size)).trans hz_j⟩)
      have HD0 : Below wr.heap.size wr wr.drew := below_drew (Below.refl _ _)
      have HZ : wr.drew.heap.size = wr.heap.size := rfl
      have hdjD : wr.drew.cell? ⟨g, j, none⟩ = some (.int .i64 tj) := hdj
      go_wp2_with fail
      refine wp_region_held_drew (S := fun w' => w'.cell? ⟨w.heap.size, 2, none⟩ = some (.slice (some ⟨bz, oz, none⟩) cs.length c3) ∧ w'.cell? ⟨bk, ok + j, none⟩ = some (.int .i64 ah) ∧ w'.cell? ⟨bz, oz + k, none⟩ = some (.int .i64 y1) ∧ w'.cell? ⟨bz, oz + j, none⟩ = some (.int .i64 y2)) (by kernel_rfl) (KK.out _ HD0) (fun hHeld => ?_)
      refine wpAnyH_take (i := 0) (oi := { dst := some 25, op := Op.move (Operand.tmp 7), type := 22, pos := "l6_hedging.go:38", after := #[], guard := none }) (v := ?_) rfl (by kernel_rfl) (by kernel_rfl) (by kernel_rfl) (fun _ _ _ h => h) (Or.inl ⟨by rfl, ?_⟩) (by assumption) ?_
      rotate_left 1
      · intro wq hSw; (try dsimp only at hSw); first | (go_simp; done) | (go_simp; with_reducible rfl)
      (try simp only [Act.put, List.setIfInBounds_toArray, List.set_cons_zero, List.set_cons_succ])
      refine wpAnyH_take (i := 1) (oi := { dst := some 26, op := Op.move (Operand.tmp 7), type := 22, pos := "l6_hedging.go:38", after := #[], guard := none }) (v := ?_) rfl (by kernel_rfl) (by kernel_rfl) (by kernel_rfl) (fun _ _ _ h => h) (Or.inl ⟨by rfl, ?_⟩) (by assumption) ?_
      rotate_left 1
      · intro wq hSw; (try dsimp only at hSw); first | (go_simp; done) | (go_simp; with_reducible rfl)
      (try simp only [Act.put, List.setIfInBounds_toArray, List.set_cons_zero, List.set_cons_succ])
      refine wpAnyH_take (i := 2) (oi := { dst := some 27, op := Op.move (Operand.tmp 9), type := 3, pos := "l6_hedging.go:38", after := #[], guard := none }) (v := ?_) rfl (by kernel_rfl) (by kernel_rfl) (by kernel_rfl) (fun _ _ _ h => h) (Or.inl ⟨by rfl, ?_⟩) (by assumption) ?_
      rotate_left 1
      · intro wq hSw; (try dsimp only at hSw); first | (go_simp; done) | (go_simp; with_reducible rfl)
      (try simp only [Act.put, List.setIfInBounds_toArray, List.set_cons_zero, List.set_cons_succ])
      refine wpAnyH_take (i := 3) (oi := { dst := some 28, op := Op.indexAddr 22 (Operand.tmp 26) (Operand.tmp 27), type := 0, pos := "l6_hedging.go:38", after := #[{ on := 1, ground := Ground.data }, { on := 2, ground := Ground.data }], guard := none }) (v := ?_) rfl (by kernel_rfl) (by kernel_rfl) (by kernel_rfl) (fun _ _ _ h => h) (Or.inl ⟨by rfl, ?_⟩) (by assumption) ?_
      rotate_left 1
      · intro wq hSw; (try dsimp only at hSw); first | (go_simp; done) | (go_simp; with_reducible rfl)
      (try simp only [Act.put, List.setIfInBounds_toArray, List.set_cons_zero, List.set_cons_succ])
      refine wpAnyH_take (i := 5) (oi := { dst := some 30, op := Op.move (Operand.tmp 2), type := 22, pos := "l6_hedging.go:38", after := #[], guard := none }) (v := ?_) rfl (by kernel_rfl) (by kernel_rfl) (by kernel_rfl) (fun _ _ _ h => h) (Or.inl ⟨by rfl, ?_⟩) (by assumption) ?_
      rotate_left 1
      · intro wq hSw; (try dsimp only at hSw); first | (go_simp; done) | (go_simp; with_reducible rfl)
      (try simp only [Act.put, List.setIfInBounds_toArray, List.set_cons_zero, List.set_cons_succ])
      refine wpAnyH_take (i := 6) (oi := { dst := some 31, op := Op.move (Operand.tmp 9), type := 3, pos := "l6_hedging.go:38", after := #[], guard := none }) (v := ?_) rfl (by kernel_rfl) (by kernel_rfl) (by kernel_rfl) (fun _ _ _ h => h) (Or.inl ⟨by rfl, ?_⟩) (by assumption) ?_
      rotate_left 1
      · intro wq hSw; (try dsimp only at hSw); first | (go_simp; done) | (go_simp; with_reducible rfl)
      (try simp only [Act.put, List.setIfInBounds_toArray, List.set_cons_zero, List.set_cons_succ])
      refine wpAnyH_take (i := 7) (oi := { dst := some 32, op := Op.indexAddr 22 (Operand.tmp 30) (Operand.tmp 31), type := 0, pos := "l6_hedging.go:38", after := #[{ on := 5, ground := Ground.data }, { on := 6, ground := Ground.data }], guard := none }) (v := ?_) rfl (by kernel_rfl) (by kernel_rfl) (by kernel_rfl) (fun _ _ _ h => h) (Or.inl ⟨by rfl, ?_⟩) (by assumption) ?_
      rotate_left 1
      · intro wq hSw; (try dsimp only at hSw); first | (go_simp; done) | (go_simp; with_reducible rfl)
      (try simp only [Act.put, List.setIfInBounds_toArray, List.set_cons_zero, List.set_cons_succ])
      refine wpAnyH_take (i := 8) (oi := { dst := some 33, op := Op.load 3 (Operand.tmp 32), type := 3, pos := "l6_hedging.go:38", after := #[{ on := 7, ground := Ground.data }], guard := none }) (v := ?_) rfl (by kernel_rfl) (by kernel_rfl) (by kernel_rfl) (fun _ _ _ h => h) (Or.inl ⟨by rfl, ?_⟩) (by assumption) ?_
      rotate_left 1
      · intro wq hSw; (try dsimp only at hSw); first | (go_simp; done) | (go_simp; with_reducible rfl)
      (try simp only [Act.put, List.setIfInBounds_toArray, List.set_cons_zero, List.set_cons_succ])
      refine wpAnyH_take (i := 9) (oi := { dst := some 34, op := Op.fieldAddr 31 (Operand.tmp 3) 1, type := 0, pos := "l6_hedging.go:38", after := #[], guard := none }) (v := ?_) rfl (by kernel_rfl) (by kernel_rfl) (by kernel_rfl) (fun _ _ _ h => h) (Or.inl ⟨by rfl, ?_⟩) (by assumption) ?_
      rotate_left 1
      · intro wq hSw; (try dsimp only at hSw); first | (go_simp; done) | (go_simp; with_reducible rfl)
      (try simp only [Act.put, List.setIfInBounds_toArray, List.set_cons_zero, List.set_cons_succ])
      refine wpAnyH_take (i := 10) (oi := { dst := some 35, op := Op.load 22 (Operand.tmp 34), type := 22, pos := "l6_hedging.go:38", after := #[{ on := 9, ground := Ground.data }], guard := none }) (v := ?_) rfl (by kernel_rfl) (by kernel_rfl) (by kernel_rfl) (fun _ _ _ h => h) (Or.inl ⟨by rfl, ?_⟩) (by assumption) ?_
      rotate_left 1
      · intro wq hSw; (try dsimp only at hSw); first | (go_simp; done) | (go_simp; with_reducible rfl)
      (try simp only [Act.put, List.setIfInBounds_toArray, List.set_cons_zero, List.set_cons_succ])
      refine wpAnyH_take (i := 11) (oi := { dst := some 36, op := Op.move (Operand.tmp 8), type := 3, pos := "l6_hedging.go:38", after := #[], guard := none }) (v := ?_) rfl (by kernel_rfl) (by kernel_rfl) (by kernel_rfl) (fun _ _ _ h => h) (Or.inl ⟨by rfl, ?_⟩) (by assumption) ?_
      rotate_left 1
      · intro wq hSw; (try dsimp only at hSw); first | (go_simp; done) | (go_simp; with_reducible rfl)
      (try simp only [Act.put, List.setIfInBounds_toArray, List.set_cons_zero, List.set_cons_succ])
      refine wpAnyH_take (i := 12) (oi := { dst := some 37, op := Op.indexAddr 22 (Operand.tmp 35) (Operand.tmp 36), type := 0, pos := "l6_hedging.go:38", after := #[{ on := 10, ground := Ground.data }, { on := 11, ground := Ground.data }], guard := none }) (v := ?_) rfl (by kernel_rfl) (by kernel_rfl) (by kernel_rfl) (fun _ _ _ h => h) (Or.inl ⟨by rfl, ?_⟩) (by assumption) ?_
      rotate_left 1
      · intro wq hSw; (try dsimp only at hSw); first | (go_simp; done) | (go_simp; with_reducible rfl)
      (try simp only [Act.put, List.setIfInBounds_toArray, List.set_cons_zero, List.set_cons_succ])
      refine wpAnyH_take (i := 13) (oi := { dst := some 38, op := Op.load 3 (Operand.tmp 37), type := 3, pos := "l6_hedging.go:38", after := #[{ on := 12, ground := Ground.data }], guard := none }) (v := ?_) rfl (by kernel_rfl) (by kernel_rfl) (by kernel_rfl) (fun _ _ _ h => h) (Or.inl ⟨by rfl, ?_⟩) (by assumption) ?_
      rotate_left 1
      · intro wq hSw; (try dsimp only at hSw); first | (go_simp; done) | (go_simp; with_reducible rfl)
      (try simp only [Act.put, List.setIfInBounds_toArray, List.set_cons_zero, List.set_cons_succ])
      refine wpAnyH_take (i := 14) (oi := { dst := some 39, op := Op.fieldAddr 31 (Operand.tmp 3) 1, type := 0, pos := "l6_hedging.go:38", after := #[], guard := none }) (v := ?_) rfl (by kernel_rfl) (by kernel_rfl) (by kernel_rfl) (fun _ _ _ h => h) (Or.inl ⟨by rfl, ?_⟩) (by assumption) ?_
      rotate_left 1
      · intro wq hSw; (try dsimp only at hSw); first | (go_simp; done) | (go_simp; with_reducible rfl)
      (try simp only [Act.put, List.setIfInBounds_toArray, List.set_cons_zero, List.set_cons_succ])
      refine wpAnyH_take (i := 15) (oi := { dst := some 40, op := Op.load 22 (Operand.tmp 39), type := 22, pos := "l6_hedging.go:38", after := #[{ on := 14, ground := Ground.data }], guard := none }) (v := ?_) rfl (by kernel_rfl) (by kernel_rfl) (by kernel_rfl) (fun _ _ _ h => h) (Or.inl ⟨by rfl, ?_⟩) (by assumption) ?_
      rotate_left 1
      · intro wq hSw; (try dsimp only at hSw); first | (go_simp; done) | (go_simp; with_reducible rfl)
      (try simp only [Act.put, List.setIfInBounds_toArray, List.set_cons_zero, List.set_cons_succ])
      refine wpAnyH_take (i := 16) (oi := { dst := some 41, op := Op.move (Operand.tmp 9), type := 3, pos := "l6_hedging.go:38", after := #[], guard := none }) (v := ?_) rfl (by kernel_rfl) (by kernel_rfl) (by kernel_rfl) (fun _ _ _ h => h) (Or.inl ⟨by rfl, ?_⟩) (by assumption) ?_
      rotate_left 1
      · intro wq hSw; (try dsimp only at hSw); first | (go_simp; done) | (go_simp; with_reducible rfl)
      (try simp only [Act.put, List.setIfInBounds_toArray, List.set_cons_zero, List.set_cons_succ])
      refine wpAnyH_take (i := 17) (oi := { dst := some 42, op := Op.indexAddr 22 (Operand.tmp 40) (Operand.tmp 41), type := 0, pos := "l6_hedging.go:38", after := #[{ on := 15, ground := Ground.data }, { on := 16, ground := Ground.data }], guard := none }) (v := ?_) rfl (by kernel_rfl) (by kernel_rfl) (by kernel_rfl) (fun _ _ _ h => h) (Or.inl ⟨by rfl, ?_⟩) (by assumption) ?_
      rotate_left 1
      · intro wq hSw; (try dsimp only at hSw); first | (go_simp; done) | (go_simp; with_reducible rfl)
      (try simp only [Act.put, List.setIfInBounds_toArray, List.set_cons_zero, List.set_cons_succ])
      refine wpAnyH_take (i := 18) (oi := { dst := some 43, op := Op.load 3 (Operand.tmp 42), type := 3, pos := "l6_hedging.go:38", after := #[{ on := 17, ground := Ground.data }], guard := none }) (v := ?_) rfl (by kernel_rfl) (by kernel_rfl) (by kernel_rfl) (fun _ _ _ h => h) (Or.inl ⟨by rfl, ?_⟩) (by assumption) ?_
      rotate_left 1
      · intro wq hSw; (try dsimp only at hSw); first | (go_simp; done) | (go_simp; with_reducible rfl)
      (try simp only [Act.put, List.setIfInBounds_toArray, List.set_cons_zero, List.set_cons_succ])
      refine wpAnyH_take (i := 19) (oi := { dst := some 44, op := Op.binOp BinOp.sub 3 (Operand.tmp 38) (Operand.tmp 43) 3, type := 3, pos := "l6_hedging.go:38", after := #[{ on := 13, ground := Ground.data }, { on := 18, ground := Ground.data }], guard := none }) (v := .int .i64 (y1 - y2)) rfl (by kernel_rfl) (by kernel_rfl) (by kernel_rfl) (fun _ _ _ h => h) (Or.inl ⟨by rfl, ?_⟩) (by assumption) ?_
      · intro wq hSw; (try dsimp only at hSw); go_simp; first | done | rfl | (rw [IntWalk.i64_in _ (by omega)])
      (try simp only [Act.put, List.setIfInBounds_toArray, List.set_cons_zero, List.set_cons_succ])
      refine wpAnyH_take (i := 20) (oi := { dst := some 45, op := Op.binOp BinOp.mul 3 (Operand.tmp 33) (Operand.tmp 44) 3, type := 3, pos := "l6_hedging.go:38", after := #[{ on := 8, ground := Ground.data }, { on := 19, ground := Ground.data }], guard := none }) (v := .int .i64 (ah * (y1 - y2))) rfl (by kernel_rfl) (by kernel_rfl) (by kernel_rfl) (fun _ _ _ h => h) (Or.inl ⟨by rfl, ?_⟩) (by assumption) ?_
      · intro wq hSw; (try dsimp only at hSw); go_simp; first | done | rfl | (rw [IntWalk.i64_in _ (by omega)])
      (try simp only [Act.put, List.setIfInBounds_toArray, List.set_cons_zero, List.set_cons_succ])
      refine wpAnyH_ready (rs := [4]) (by kernel_rfl) (by simp) ?_
      refine AllReadyH.cons (o := { dst := some 29, op := Op.load 3 (Operand.tmp 28), type := 3, pos := "l6_hedging.go:38", after := #[{ on := 3, ground := Ground.data }], guard := none }) rfl (fun KQ hKQ => ?_) AllReadyH.nil
      go_simp
      refine hKQ.out _ _ (KK.out _ HD0) (fun hHeld => ?_)
      (try simp only [Act.put, List.setIfInBounds_toArray, List.set_cons_zero, List.set_cons_succ])
      refine wpAnyH_take (i := 21) (oi := { dst := some 46, op := Op.binOp BinOp.add 3 (Operand.tmp 29) (Operand.tmp 45) 3, type := 3, pos := "l6_hedging.go:38", after := #[{ on := 4, ground := Ground.data }, { on := 20, ground := Ground.data }], guard := none }) (v := .int .i64 (tj + ah * (y1 - y2))) rfl (by kernel_rfl) (by kernel_rfl) (by kernel_rfl) (fun _ _ _ h => h) (Or.inl ⟨by rfl, ?_⟩) (by assumption) ?_
      · intro wq hSw; (try dsimp only at hSw); go_simp; first | done | rfl | (rw [IntWalk.i64_in _ (by omega)])
      (try simp only [Act.put, List.setIfInBounds_toArray, List.set_cons_zero, List.set_cons_succ])
      refine wpAnyH_ready (rs := [22]) (by kernel_rfl) (by simp) ?_
      refine AllReadyH.cons (o := { dst := some 47, op := Op.buildSlice 22 1 #[(0, Operand.tmp 46)], type := 22, pos := "l6_hedging.go:38", after := #[{ on := 21, ground := Ground.data }], guard := none }) rfl (fun KQ hKQ => ?_) AllReadyH.nil
      go_simp
      refine hKQ.out _ _ (KK.out _ (HD0.alloc (Nat.le_refl _) _)) (fun hHeld => ?_)
      (try simp only [Act.put, List.setIfInBounds_toArray, List.set_cons_zero, List.set_cons_succ])
      refine wpAnyH_ready (rs := [23]) (by kernel_rfl) (by simp) ?_
      refine AllReadyH.cons (o := { dst := some 48, op := Op.call { callee := Callee.builtin Builtin.append, args := #[Operand.tmp 25, Operand.tmp 47], argTypes := #[22, 22] }, type := 22, pos := "l6_hedging.go:38", after := #[{ on := 0, ground := Ground.data }, { on := 22, ground := Ground.data }], guard := none }) rfl (fun KQ hKQ => ?_) AllReadyH.nil
      refine step_append_lies _ rfl _ _ 22 rfl (w.heap.size + 1) 3 i0 (.int .i64 0) 1 8 Try.underlying22 hi hz0 hz1 hz2 rfl (by decide) _ L.length (L.map (.int .i64)) rfl HOA.out ⟨wr.drew.heap.size, 0, none⟩ 1 1 [.int .i64 (tj + ah * (y1 - y2))] rfl rfl HNA.out (fun u hu => by simp at hu; subst hu; rfl) (by omega) (by unfold maxLen; omega) (by omega) (by simp; omega) _ rfl ?_
      intro g4 cap4 w4 hown3 hgrow3 hat3 hlt3
      have own3 := Lib.hid (HOD.out.app NI.out hown3)
      have bel3 := Lib.hid ((HBD.out.alloc HBD.out.size _).grown hgrow3 (by simp; omega) (fun q hq => by have := (HOA.out.lt q hq).1; omega))
      have box3 := Lib.hid ((HTD.out.alloc _).grown hgrow3 (fun q hq => (HOA.out.lt q hq).1) (by omega))
      clear hown3
      have far : Hid (∀ b o v, b < wr.heap.size → b ≠ g → wr.cell? ⟨b, o, none⟩ = some v → w4.cell? ⟨b, o, none⟩ = some v) := Lib.hid (fun b o v hb hne hv => by
        rw [ne_grownB hgrow3 (by simp; omega) (fun q hq => by have e : (some g : Option Nat) = some q := hq; injection e with e; omega)]
        show (wr.drew.alloc _).cell? _ = _
        rw [World.cell?_alloc_lt _ _ _ (by show b < wr.drew.heap.size; omega)]
        exact hv)
      obtain ⟨e0, e2, e3, e4⟩ := KK.out _ (Below.refl wr.heap.size wr)
      have hSz := HT.out.lt
      have hgw : w.heap.size + 1 ≤ g := hg1
      have hbzw : bz < w.heap.size := hbz
      have hbkw : bk < w.heap.size := hbk
      refine hKQ.out _ _ ⟨far.out _ _ _ hSz (by omega) e0, far.out _ _ _ (by omega) (by omega) e2, far.out _ _ _ (by omega) (by omega) e3, far.out _ _ _ (by omega) (by omega) e4⟩ (fun hHeld => ?_)
      (try simp only [Act.put, List.setIfInBounds_toArray, List.set_cons_zero, List.set_cons_succ])
      refine wpAnyH_take (i := 24) (oi := { dst := some 7, op := Op.assign (Operand.tmp 48), type := 22, pos := "l6_hedging.go:38", after := #[{ on := 23, ground := Ground.data }, { on := 23, ground := Ground.chain }, { on := 0, ground := Ground.phase }, { on := 1, ground := Ground.phase }, { on := 2, ground := Ground.phase }, { on := 3, ground := Ground.phase }, { on := 4, ground := Ground.phase }, { on := 5, ground := Ground.phase }, { on := 6, ground := Ground.phase }, { on := 7, ground := Ground.phase }, { on := 8, ground := Ground.phase }, { on := 9, ground := Ground.phase }, { on := 10, ground := Ground.phase }, { on := 11, ground := Ground.phase }, { on := 12, ground := Ground.phase }, { on := 13, ground := Ground.phase }, { on := 14, ground := Ground.phase }, { on := 15, ground := Ground.phase }, { on := 16, ground := Ground.phase }, { on := 17, ground := Ground.phase }, { on := 18, ground := Ground.phase }, { on := 19, ground := Ground.phase }, { on := 20, ground := Ground.phase }, { on := 21, ground := Ground.phase }, { on := 22, ground := Ground.phase }, { on := 23, ground := Ground.phase }], guard := none }) (v := ?_) rfl (by kernel_rfl) (by kernel_rfl) (by kernel_rfl) (fun _ _ _ h => h) (Or.inl ⟨by rfl, ?_⟩) (by assumption) ?_
      rotate_left 1
      · intro wq hSw; (try dsimp only at hSw); first | (go_simp; done) | (go_simp; with_reducible rfl)
      (try simp only [Act.put, List.setIfInBounds_toArray, List.set_cons_zero, List.set_cons_succ])
      refine wpAnyH_done (by kernel_rfl) ?_ _
      go_wp2_with fail
      go_roundw
      case rel => exact ⟨k + 1, by omega, by omega, by go_num, Lib.hid (by rw [SE.out]; exact own3.out), box3, bel3⟩
      case measure => simp [intOf]; omega
    · obtain rfl : k = ps.length := by omega
      have FIN : Hid (∀ o, OwnV wr (w.heap.size + 1) wr.heap.size o T → NewInts T w (.returned o) wr) := Lib.hid (fun o ho => ⟨o, rfl, ho.low (by omega), HB.out⟩)
      rw [List.take_of_length_le (by have := FC.out.len; omega)] at HO
      go_wp2_with fail
      go_ret
      exact FIN.out _ HO.out
set_option maxRecDepth 100000 in
set_option maxHeartbeats 4000000 in
theorem wealthS (ps ws cs hs : List Int) (a : Int) (v u : Value) (w : World) (hn : cs.length ≤ 1048576) (hn1 : hs.length ≤ 1048576) (h : MktV w w.heap.size v ps ws cs) (hu : IntsV w w.heap.size u hs) :
    Calls Try.prog 17 #[v, .int .i64 a, u] w (NewIntsB (ifHold ps ws cs hs a (wlT ps cs hs a)) (startB a && holdB ps ws cs hs) w) := by
  have HC := Lib.hid (fun w' (hb : Below w.heap.size w w') => holdsS ps ws cs hs a v u w' hn hn1 (h.boxed hb) ((hu.below hb).more hb.size))
  have HV := Lib.hid h
  have HU := Lib.hid hu
  obtain ⟨p1, c1, p2, c2, p3, c3, rfl⟩ := h.shape
  obtain ⟨q, d, rfl, _⟩ := hu
  clear h
  have B1 := (Below.refl w.heap.size w).alloc (Nat.le_refl _) (.cells #[.slice p1 ps.length c1, .slice p2 ws.length c2, .slice p3 cs.length c3] 31)
  have T1 := Lib.hid (show KBox (w.alloc (.cells #[.slice p1 ps.length c1, .slice p2 ws.length c2, .slice p3 cs.length c3] 31)) w.heap.size (.slice p1 ps.length c1) (.slice p2 ws.length c2) (.slice p3 cs.length c3) from alloc_heap w _)
  obtain ⟨wa, hwa⟩ : ∃ wa, wa = w.alloc (.cells #[.slice p1 ps.length c1, .slice p2 ws.length c2, .slice p3 cs.length c3] 31) := ⟨_, rfl⟩
  rw [← hwa] at B1 T1
  have HBA := Lib.hid B1
  clear B1
  obtain ⟨x0, x1, x2⟩ := T1.out.cells
  have IS : Hid (ifHold ps ws cs hs a (wlT ps cs hs a) = if (startB a && holdB ps ws cs hs) = true then wlT ps cs hs a else []) := Lib.hid rfl
  cases hg : (startB a && holdB ps ws cs hs)
  · rw [hg] at IS HC
    rw [IS.out, if_neg (by decide)]
    clear hg IS
    go_enter Try.func17, Try.ntmps17
    go_wp2_with fail
    rw [← hwa]
    clear hwa
    refine (HC.out _ HBA.out).mono ?_
    rintro e w1 ⟨rfl, b1⟩
    have HB1 := Lib.hid (HBA.out.trans (b1.mono HBA.out.size))
    clear b1
    go_wp2_with fail
    go_ret2
    exact newInts_empty HB1.out
  · have hg2 := hg
    rw [Bool.and_eq_true] at hg2
    have HD := Lib.hid (holdB_iff.1 hg2.2)
    have ha : -999 ≤ a ∧ a ≤ 999 := of_decide_eq_true hg2.1
    have WS := Lib.hid (fun w' (hb : Below w.heap.size w w') => wlMS ps ws cs hs (wlT ps cs hs a) a _ _ w' HD.out.mkt.good.n1 HD.out.mkt.good.n24 (by have := HD.out.mkt.len; omega) (by have := HD.out.mkt.len; omega) (by have := HD.out.mkt.len; have := HD.out.len; omega) (by have := HD.out.mkt.len; have := HD.out.len; omega) (by unfold InI64; omega) (wlFacts HD.out ha) (HV.out.boxed hb) ((HU.out.below hb).more hb.size))
    rw [hg] at IS HC
    rw [IS.out, if_pos rfl]
    clear hg hg2 IS ha HD
    obtain ⟨T, hT⟩ : ∃ T, T = wlT ps cs hs a := ⟨_, rfl⟩
    rw [← hT] at WS ⊢
    clear hT
    go_enter Try.func17, Try.ntmps17
    go_wp2_with fail
    rw [← hwa]
    clear hwa
    refine (HC.out _ HBA.out).mono ?_
    rintro e w1 ⟨rfl, b1⟩
    have HB1 := Lib.hid (HBA.out.trans (b1.mono HBA.out.size))
    obtain ⟨y0, y1, y2⟩ := (T1.out.below b1 T1.out.lt).cells
    clear b1 x0 x1 x2
    go_wp2_with fail
    refine (WS.out _ HB1.out).mono ?_
    rintro e w2 ⟨g, rfl, o2, b2⟩
    have FIN : Hid (NewIntsB T true w (.returned (.tuple #[g, .bool true])) w2) := Lib.hid ⟨_, rfl, o2.low HB1.out.size, HB1.out.trans (b2.mono HB1.out.size)⟩
    clear o2 b2
    go_wp2_with fail
    go_ret2
    exact FIN.out
end Go.Proofs.Ytamneibnjbimeaa
