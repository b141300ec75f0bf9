/- FirstEntry in the model. -/
import Derived.Test.YtbpelmpipkkonabEntI
import Derived.Test.YtbpelmpipkkonabPutS
import Derived.Test.YtbpelmpipkkonabProcM
import Derived.Test.YtbpelmpipkkonabWayS
import Derived.Test.YtbpelmpipkkonabPickP
import Derived.Deep.LoopGhost
namespace Go.Proofs.Ytbpelmpipkkonab
open Go.RowKit
set_option linter.unusedVariables false
theorem hb_fullE {w wa a : World} (h : Hid (Below w.heap.size w wa)) (k : Hid (Below wa.heap.size wa a)) : Below w.heap.size w a := h.out.trans (k.out.mono h.out.size)
set_option maxRecDepth 100000 in
set_option maxHeartbeats 8000000 in
theorem entM (ps ws zs : List Int) (lv : Int) (v u : Value) (w : World) (hn1 : zs.length ≤ 1048576) (h : TreeV w w.heap.size v ps ws) (hu : IntsV w w.heap.size u zs) :
    Calls Try.prog 30 #[v, u, .int .i64 lv] w (NewIntsB (ifEnt ps ws zs (entL ps zs lv)) (procB ps ws zs) w) := by
  have PC := Lib.hid (fun w' (hb : Below w.heap.size w w') => procS ps ws zs v u w' hn1 (h.boxed hb) ((hu.below hb).more hb.size))
  have EN := Lib.hid (fun (gd : Good ps ws) w' (hb : Below w.heap.size w w') => endsS ps ws v w' (h.boxed hb) gd.n24 (parAll gd))
  have WY := Lib.hid (fun (gd : Good ps ws) w' (hb : Below w.heap.size w w') (x : Nat) (hx : x < ps.length) => wayS ps ws v x w' gd hx (h.boxed hb))
  obtain ⟨p1, c1, p2, c2, rfl⟩ := h.shape
  obtain ⟨q, d, rfl, _, _, _, j1⟩ := hu
  have Q1 := Lib.hid j1
  clear h j1
  have B1 := ((Below.refl w.heap.size w).alloc (Nat.le_refl _) (.cells #[.slice p1 ps.length c1, .slice p2 ws.length c2] 28)).alloc (by simp) (.cells #[] 3)
  have T1 := Lib.hid (TBox.alloc (show TBox (w.alloc (.cells #[.slice p1 ps.length c1, .slice p2 ws.length c2] 28)) w.heap.size (.slice p1 ps.length c1) (.slice p2 ws.length c2) from alloc_heap w _) (.cells #[] 3))
  have O1 := Lib.hid (OwnV.empty (w.alloc (.cells #[.slice p1 ps.length c1, .slice p2 ws.length c2] 28)) w.heap.size (by simp))
  rw [show (w.alloc (.cells #[.slice p1 ps.length c1, .slice p2 ws.length c2] 28)).heap.size = w.heap.size + 1 by simp] at O1
  obtain ⟨x0, x1⟩ := T1.out.cells
  obtain ⟨wa, hwa⟩ : ∃ wa, wa = (w.alloc (.cells #[.slice p1 ps.length c1, .slice p2 ws.length c2] 28)).alloc (.cells #[] 3) := ⟨_, rfl⟩
  rw [← hwa] at B1 T1 O1
  have HBA := Lib.hid B1
  clear B1
  cases hp : procB ps ws zs
  · rw [hp] at PC
    have IS := Lib.hid (show ifEnt ps ws zs (entL ps zs lv) = [] by unfold ifEnt; rw [hp]; rfl)
    rw [IS.out]
    clear hp EN WY
    go_enter Try.func30, Try.ntmps30
    go_wp2_with fail
    rw [← hwa]
    clear hwa
    refine (PC.out _ HBA.out).mono ?_
    rintro e w1 ⟨rfl, b1⟩
    have FIN : Hid (NewIntsB [] false w (.returned (.tuple #[.slice (some ⟨w.heap.size + 1, 0, none⟩) 0 0, .bool false])) w1) := Lib.hid ⟨_, rfl, (O1.out.below b1).wide b1.size (Nat.le_refl _), HBA.out.trans (b1.mono HBA.out.size)⟩
    clear b1
    go_wp2_with fail
    go_ret2
    exact FIN.out
  · rw [hp] at PC
    have IS := Lib.hid (show ifEnt ps ws zs (entL ps zs lv) = entL ps zs lv by unfold ifEnt; rw [hp]; rfl)
    have PR := Lib.hid (procB_iff.1 hp)
    have gd := PR.out.good
    have hn24 := gd.n24
    have hn0 := gd.n1
    have ZL := Lib.hid PR.out.len
    have EN2 := Lib.hid (EN.out gd)
    have WY2 := Lib.hid (WY.out gd)
    have EP := ends_pos gd
    have hel := Nat.le_trans (ends_le ps) hn24
    have EI := Lib.hid (fun i (hi : i < (endsT ps).length) => ends_in hi)
    have WW := Lib.hid (fun x (hx : x < ps.length) => way_all (ParOk.of gd) x hx)
    have SE := Lib.hid (fun (x : Nat) (hx : x < ps.length) (hl : leafB ps x = true) (k : Nat) hk hb he => ent_search gd zs lv hx hl (k := k) hk hb he)
    have EL := Lib.hid (fun (x : Nat) (hx : x < ps.length) (hl : leafB ps x = true) => ent_leaf (ParOk.of gd) zs lv hx hl)
    have EB := Lib.hid (fun (x : Nat) (hx : x < ps.length) => ent_bd (ParOk.of gd) zs lv x hx)
    obtain ⟨C, hC⟩ : ∃ C, C = (endsT ps).map fun e => (entT ps zs lv).getD e.toNat 0 := ⟨_, rfl⟩
    have CLN : Hid (C.length = (endsT ps).length) := Lib.hid (by rw [hC, List.length_map])
    have CAT : Hid (∀ k (x : Nat), k < (endsT ps).length → (x : Int) = (endsT ps).getD k 0 → C.getD k 0 = (entT ps zs lv).getD x 0) := Lib.hid (fun k x hk hx => by
      have e : (endsT ps).getD k 0 = (endsT ps)[k] := by rw [List.getD_eq_getElem?_getD, List.getElem?_eq_getElem hk]; rfl
      rw [hC, List.getD_eq_getElem?_getD, List.getElem?_map, List.getElem?_eq_getElem hk]
      show (entT ps zs lv).getD ((endsT ps)[k]).toNat 0 = _
      rw [← e, ← hx, Int.toNat_natCast])
    have PT := Lib.hid (fun (k x : Nat) (hk : k < C.length) (hx : C.getD k 0 = (x : Int)) (h : x < ps.length) => put_take hk hx h)
    have Z0 : Hid (nodesW (fun y => inL (C.take 0) (y : Int)) ps.length = []) := Lib.hid (by
      rw [List.take_zero]
      unfold nodesW
      rw [List.map_eq_nil_iff, List.filter_eq_nil_iff]
      intro y _
      unfold inL; simp)
    have ALL : Hid (∀ k, C.length ≤ k → nodesW (fun y => inL (C.take k) (y : Int)) ps.length = entL ps zs lv) := Lib.hid (fun k hk => by rw [List.take_of_length_le hk, ent_list gd, hC])
    have NL := Lib.hid (fun k => nodesW_len (fun y => inL (C.take k) (y : Int)) ps.length)
    rw [IS.out]
    clear hp EN WY gd hC
    obtain ⟨E, hE⟩ : ∃ E, E = endsT ps := ⟨_, rfl⟩
    rw [← hE] at EN2 EP hel EI CLN CAT
    clear hE
    go_enter Try.func30, Try.ntmps30
    go_wp2_with fail
    rw [← hwa]
    clear hwa
    refine (PC.out _ HBA.out).mono ?_
    rintro e w1 ⟨rfl, b1⟩
    have HB1 := Lib.hid (HBA.out.trans (b1.mono HBA.out.size))
    have HT1 := Lib.hid (T1.out.below b1 T1.out.lt)
    have HO1 := Lib.hid ((O1.out.below b1).wide b1.size (Nat.le_refl _))
    clear b1 x0 x1
    obtain ⟨x0, x1⟩ := HT1.out.cells
    go_wp2_with fail
    refine (EN2.out _ HB1.out).mono ?_
    rintro e w2 ⟨ue, rfl, o2, b2⟩
    obtain ⟨g, ce, rfl, hg1, hg2⟩ := o2.shape EP
    have HB2 := Lib.hid (HB1.out.trans (b2.mono HB1.out.size))
    have HT2 := Lib.hid (HT1.out.below b2 HT1.out.lt)
    have HO2 := Lib.hid ((HO1.out.below b2).wide b2.size (Nat.le_refl _))
    have DC := Lib.hid (fun j (hj : j < E.length) => o2.cellGet (j := j) hj)
    have HG := Lib.hid hg2
    clear b2 o2 x0 x1 hg1 hg2 HB1 HT1 HO1 T1 O1 HBA
    go_wp2
    go_loopg [8, 10] E.length (fun gg o i wr => ∃ k : Nat, k ≤ E.length ∧ E.length - k ≤ gg ∧ i = .int .i64 k ∧ (∃ go co, o = .slice (some ⟨go, 0, none⟩) (nodesW (fun y => inL (C.take k) (y : Int)) ps.length).length co) ∧ Hid (OwnV wr w.heap.size wr.heap.size o (nodesW (fun y => inL (C.take k) (y : Int)) ps.length)) ∧ Hid (Below w2.heap.size w2 wr))
    case atStart => exact ⟨0, Nat.zero_le _, by omega, rfl, ⟨_, _, by rw [Z0.out]; rfl⟩, Lib.hid (by rw [Z0.out]; exact HO2.out), Lib.hid (Below.refl _ _)⟩
    case round =>
      obtain ⟨k, hk, hgg, rfl, ⟨go, co, rfl⟩, HO, HB⟩ := hrel
      have HBW := Lib.hid (HB2.out.trans (HB.out.mono HB2.out.size))
      have HT := Lib.hid (HT2.out.below HB.out HT2.out.lt)
      by_cases hlt : k < E.length
      · obtain ⟨x, hx, hxl, hxf⟩ := EI.out k hlt
        have hce := (HB.out.cell (p := ⟨g, k, none⟩) HG.out).trans (DC.out k hlt)
        have pa := CAT.out k x hlt hx
        rw [← hx] at hce
        have el := EL.out x hxl hxf
        have eb := EB.out x hxl
        obtain ⟨y, hy⟩ : ∃ y : Nat, (entT ps zs lv).getD x 0 = (y : Int) := ⟨((entT ps zs lv).getD x 0).toNat, by omega⟩
        have hyl : y < ps.length := by omega
        rw [hy] at pa
        have PUT := Lib.hid (PT.out k y (by have := CLN.out; omega) pa hyl)
        have SEX := Lib.hid (SE.out x hxl hxf)
        rw [hy] at SEX
        have W := Lib.hid (WW.out x hxl)
        have hgw : g < wr.heap.size := Nat.lt_of_lt_of_le HG.out HB.out.size
        have Cc : Hid (∀ w', Hid (Below wr.heap.size wr w') → Calls Try.prog 75 #[.agg #[.slice p1 ps.length c1, .slice p2 ws.length c2], .int .i64 (x : Int)] w' (NewInts (wayT ps (x : Int)) w')) := Lib.hid (fun w' hb => WY2.out w' (hb_fullE HBW hb) x hxl)
        have KC : Hid (∀ w', Hid (Below wr.heap.size wr w') → w'.cell? ⟨w.heap.size, 0, none⟩ = some (.slice p1 ps.length c1) ∧ w'.cell? ⟨w.heap.size, 1, none⟩ = some (.slice p2 ws.length c2) ∧ w'.cell? ⟨g, k, none⟩ = some (.int .i64 (x : Int))) := Lib.hid (fun w' hb => ⟨(HT.out.below hb.out HT.out.lt).cells.1, (HT.out.below hb.out HT.out.lt).cells.2, (hb.out.cell (p := ⟨g, k, none⟩) hgw).trans hce⟩)
        have HD : Hid (Below wr.heap.size wr wr.drew) := Lib.hid (below_drew (Below.refl _ _))
        obtain ⟨x0, x1⟩ := HT.out.cells
        have i0' : (0 : Int) ≤ (k : Int) := by omega
        have i1 : (k : Int) < (E.length : Int) := by omega
        obtain ⟨L, hL⟩ : ∃ L, L = wayT ps (x : Int) := ⟨_, rfl⟩
        have WP : Hid (0 < L.length ∧ L.length ≤ 24) := Lib.hid (by rw [hL]; have := W.out.len; omega)
        have WN : Hid (∀ j, j < L.length → 0 ≤ L.getD j 0 ∧ L.getD j 0 < (ps.length : Int)) := Lib.hid (fun j hj => by rw [hL] at hj ⊢; have := W.out.node j hj; omega)
        rw [← hL] at Cc SEX
        have LLE : (nodesW (fun y => inL (C.take k) (y : Int)) ps.length).length ≤ 24 := Nat.le_trans (NL.out k) hn24
        clear hL hx hce pa el eb hy
        go_wp2_with fail
        go_region_held3 (fun w' => w'.cell? ⟨w.heap.size, 0, none⟩ = some (.slice p1 ps.length c1) ∧ w'.cell? ⟨w.heap.size, 1, none⟩ = some (.slice p2 ws.length c2) ∧ w'.cell? ⟨g, k, none⟩ = some (.int .i64 (x : Int)))
          (first | exact KC.out _ HD | exact KC.out _ (by assumption) | go_keep)
          (first
            | (go_at_call 75; (with_reducible refine (Cc.out _ (by first | exact HD | assumption)).mono ?_); rintro e w3 ⟨u3, rfl, o3, b3⟩; (have HE3 := hb_nextE (wa := wr) (by first | exact HD | assumption) b3); (obtain ⟨gw, cw, rfl, _, hgw3⟩ := o3.shape WP.out.1); (have DW := Lib.hid (fun j (hj : j < L.length) => o3.cellGet (j := j) hj)); clear b3 o3 hgw3))
        all_goals
          have HB3 := Lib.hid (hb_fullE HBW HE3)
          have HBX := Lib.hid (HB.out.trans (HE3.out.mono HB.out.size))
          have HO3 := Lib.hid ((HO.out.below HE3.out).wide HE3.out.size (Nat.le_refl _))
          obtain ⟨bz, oz, hqz, hbz, _⟩ := Q1.out.get (i := 0) (by have := ZL.out; omega)
          subst hqz
          have HCZ : Hid (∀ y : Nat, y < ps.length → w3.cell? ⟨bz, oz + y, none⟩ = some (.int .i64 (zs.getD y 0))) := Lib.hid (fun y hy => by
            obtain ⟨b', off', hq', hb', hc'⟩ := Q1.out.get (i := y) (by have := ZL.out; omega)
            injection hq' with hq'
            injection hq' with h1 h2
            subst h1; subst h2
            rw [HB3.out.cell (p := ⟨bz, oz + y, none⟩) hb', hc'])
          have le1 : zs.length ≤ ps.length := by have := ZL.out; omega
          have le2 : ps.length ≤ zs.length := by have := ZL.out; omega
          have wl := WP.out
          clear HO HB HBW HD KC Cc x0 x1 HT
          go_wp2_with fail
          go_loopg [12] L.length (fun gi j wi => ∃ kk : Nat, kk < L.length ∧ L.length - kk ≤ gi ∧ j = .int .i64 kk ∧ Hid (∀ m, m < kk → zs.getD (L.getD m 0).toNat 0 < lv) ∧ wi = w3)
          case atStart => exact ⟨0, wl.1, by omega, rfl, Lib.hid (fun m hm => by omega), rfl⟩
          case round =>
            obtain ⟨kk, hkk, hgi, rfl, HA, rfl⟩ := hrel
            obtain ⟨n0, n1⟩ := WN.out kk hkk
            have hw := DW.out kk hkk
            have FND := Lib.hid (SEX.out kk hkk HA.out)
            obtain ⟨yy, hyy⟩ : ∃ yy : Nat, (yy : Int) = L.getD kk 0 := ⟨(L.getD kk 0).toNat, by omega⟩
            have NX : Hid (zs.getD yy 0 < lv → ∀ m, m < kk + 1 → zs.getD (L.getD m 0).toNat 0 < lv) := Lib.hid (fun h m hm => by
              rcases Nat.lt_or_ge m kk with h' | h'
              · exact HA.out m h'
              · obtain rfl : m = kk := by omega
                rw [← hyy, Int.toNat_natCast]; exact h)
            rw [← hyy] at hw n0 n1 FND
            rw [Int.toNat_natCast] at FND
            have hzy := HCZ.out yy (by omega)
            have i2 : (0 : Int) ≤ (kk : Int) := by omega
            have i3 : (kk : Int) < (L.length : Int) := by omega
            have i4 : (yy : Int) < (zs.length : Int) := by omega
            obtain ⟨zy, hzz⟩ : ∃ zy, zy = zs.getD yy 0 := ⟨_, rfl⟩
            rw [← hzz] at hzy FND NX
            clear hyy hzz HA
            by_cases hgo : kk + 1 < L.length ∧ zy < lv
            · obtain ⟨hgo1, hgo2⟩ := hgo
              have i5 : (kk : Int) + 1 < (L.length : Int) := by omega
              have N2 := Lib.hid (NX.out hgo2)
              clear NX FND
              go_wp2_with fail
              go_roundg (L.length - (kk + 1))
              case rel => exact ⟨kk + 1, by omega, by omega, by go_num, N2, by first | trivial | rfl⟩
              case measure => omega
            · by_cases hend : kk + 1 < L.length
              · have i5 : (kk : Int) + 1 < (L.length : Int) := by omega
                have i6 : ¬ zy < lv := fun h => hgo ⟨hend, h⟩
                have FY := Lib.hid (FND.out (.inr (by omega)))
                have IY : InI64 (y : Int) := inI64_nat (by omega)
                obtain ⟨LL, hLL⟩ : ∃ LL, LL = nodesW (fun y => inL (C.take k) (y : Int)) ps.length := ⟨_, rfl⟩
                rw [← hLL] at HO3 PUT LLE
                have eyy : y = yy := by have := FY.out; omega
                subst eyy
                have NLH : Hid ((putL LL (y : Int)).length ≤ 24) := Lib.hid (by rw [PUT.out]; exact Nat.le_trans (NL.out _) hn24)
                rw [← hLL]
                have PS := Lib.hid (putS LL (y : Int) go 0 co wr (by omega) IY HO3.out.intsV)
                clear hLL NX FND
                go_wp2_with fail
                refine PS.out.mono ?_
                rintro e w11 ⟨b11, hres⟩
                have HB11 := Lib.hid (HBX.out.trans (b11.mono HBX.out.size))
                rcases hres with ⟨rfl, hsame⟩ | ⟨g11, c11, rfl, o11⟩
                · have O11 := Lib.hid ((HO3.out.below b11).wide b11.size (Nat.le_refl _))
                  have EQ : Hid (LL = nodesW (fun y => inL (C.take (k + 1)) (y : Int)) ps.length) := Lib.hid (by rw [← hsame]; exact PUT.out)
                  clear b11 hsame
                  go_wp2_with fail
                  go_roundg (E.length - (k + 1))
                  case rel => exact ⟨k + 1, by omega, by omega, by go_num, ⟨_, _, by rw [← EQ.out]⟩, Lib.hid (by rw [← EQ.out]; exact O11.out), HB11⟩
                  case measure => omega
                · have O11 := Lib.hid (o11.low (Nat.le_trans HB2.out.size HBX.out.size))
                  clear b11 o11
                  go_wp2_with fail
                  go_roundg (E.length - (k + 1))
                  case rel => exact ⟨k + 1, by omega, by omega, by go_num, ⟨_, _, by rw [PUT.out]⟩, Lib.hid (by rw [← PUT.out]; exact O11.out), HB11⟩
                  case measure => omega
              · have i5 : ¬ (kk : Int) + 1 < (L.length : Int) := by omega
                have FY := Lib.hid (FND.out (.inl (by omega)))
                have IY : InI64 (y : Int) := inI64_nat (by omega)
                obtain ⟨LL, hLL⟩ : ∃ LL, LL = nodesW (fun y => inL (C.take k) (y : Int)) ps.length := ⟨_, rfl⟩
                rw [← hLL] at HO3 PUT LLE
                have eyy : y = yy := by have := FY.out; omega
                subst eyy
                have NLH : Hid ((putL LL (y : Int)).length ≤ 24) := Lib.hid (by rw [PUT.out]; exact Nat.le_trans (NL.out _) hn24)
                rw [← hLL]
                have PS := Lib.hid (putS LL (y : Int) go 0 co wr (by omega) IY HO3.out.intsV)
                clear hLL NX FND
                go_wp2_with fail
                refine PS.out.mono ?_
                rintro e w11 ⟨b11, hres⟩
                have HB11 := Lib.hid (HBX.out.trans (b11.mono HBX.out.size))
                rcases hres with ⟨rfl, hsame⟩ | ⟨g11, c11, rfl, o11⟩
                · have O11 := Lib.hid ((HO3.out.below b11).wide b11.size (Nat.le_refl _))
                  have EQ : Hid (LL = nodesW (fun y => inL (C.take (k + 1)) (y : Int)) ps.length) := Lib.hid (by rw [← hsame]; exact PUT.out)
                  clear b11 hsame
                  go_wp2_with fail
                  go_roundg (E.length - (k + 1))
                  case rel => exact ⟨k + 1, by omega, by omega, by go_num, ⟨_, _, by rw [← EQ.out]⟩, Lib.hid (by rw [← EQ.out]; exact O11.out), HB11⟩
                  case measure => omega
                · have O11 := Lib.hid (o11.low (Nat.le_trans HB2.out.size HBX.out.size))
                  clear b11 o11
                  go_wp2_with fail
                  go_roundg (E.length - (k + 1))
                  case rel => exact ⟨k + 1, by omega, by omega, by go_num, ⟨_, _, by rw [PUT.out]⟩, Lib.hid (by rw [← PUT.out]; exact O11.out), HB11⟩
                  case measure => omega
      · have FIN : Hid (NewIntsB (entL ps zs lv) true w (.returned (.tuple #[.slice (some ⟨go, 0, none⟩) (nodesW (fun y => inL (C.take k) (y : Int)) ps.length).length co, .bool true])) wr) := Lib.hid ⟨_, rfl, by have h := HO.out; rwa [ALL.out k (by have := CLN.out; omega)] at h ⊢, HBW.out⟩
        go_wp2
        go_ret2
        exact FIN.out
end Go.Proofs.Ytbpelmpipkkonab
