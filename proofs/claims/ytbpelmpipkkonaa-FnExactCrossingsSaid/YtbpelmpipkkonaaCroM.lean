/- Crossings in the model. -/
import Derived.Test.YtbpelmpipkkonaaProcM
import Derived.Test.YtbpelmpipkkonaaCroP
import Derived.Test.YtbpelmpipkkonaaWayS
import Derived.Test.YtbpelmpipkkonaaEndsL
import Derived.Test.YtbpelmpipkkonaaPassI
import Derived.Maps.AppendAt
import Derived.Deep.LoopGhost
import Derived.Deep.RegionHeld3
namespace Go.Proofs.Ytbpelmpipkkonaa
open Go.RowKit
set_option linter.unusedVariables false
theorem ne_grownC {w w3 : World} {r : Option Nat} {g : Nat} (hg : w.grownBy w3 r) (hs : g < w.heap.size) (hne : ∀ q, r = some q → q ≠ g) (o : Nat) : w3.cell? ⟨g, o, none⟩ = w.cell? ⟨g, o, none⟩ := by
  have h := hg.block g hs (fun e => hne g e.symm rfl)
  unfold World.cell?
  rw [h]
set_option maxRecDepth 100000 in
set_option maxHeartbeats 4000000 in
theorem croM (ps ws zs : List Int) (lo hi : Int) (v u : Value) (w : World) (hn1 : zs.length ≤ 1048576) (h : TreeV w w.heap.size v ps ws) (hu : IntsV w w.heap.size u zs) :
    Calls Try.prog 42 #[v, u, .int .i64 lo, .int .i64 hi] w (NewIntsB (ifCro ps ws zs lo hi) (croB ps ws zs lo hi) w) := by
  have PC := Lib.hid (fun w' (hb : Below w.heap.size w w') => procS ps ws zs v u w' hn1 (h.boxed hb) ((hu.below hb).more hb.size))
  have EN := Lib.hid (fun (gd : Good ps ws) w' (hb : Below w.heap.size w w') => endsS ps ws v w' (h.boxed hb) gd.n24 (parAll gd))
  have WY := Lib.hid (fun (gd : Good ps ws) w' (hb : Below w.heap.size w w') (x : Nat) (hx : x < ps.length) => wayS ps ws v x w' gd hx (h.boxed hb))
  obtain ⟨p1, c1, p2, c2, rfl⟩ := h.shape
  obtain ⟨q, d, rfl, _, _, _, j1⟩ := hu
  have Q1 := Lib.hid j1
  clear h j1
  obtain ⟨i0, hif, hz0, hz1, hz2⟩ := info_parts intInfo
  have B1 := ((Below.refl w.heap.size w).alloc (Nat.le_refl _) (.cells #[.slice p1 ps.length c1, .slice p2 ws.length c2] 28)).alloc (by simp) (.cells #[] 3)
  have T1 := Lib.hid (TBox.alloc (show TBox (w.alloc (.cells #[.slice p1 ps.length c1, .slice p2 ws.length c2] 28)) w.heap.size (.slice p1 ps.length c1) (.slice p2 ws.length c2) from alloc_heap w _) (.cells #[] 3))
  have O1 := Lib.hid (OwnV.empty (w.alloc (.cells #[.slice p1 ps.length c1, .slice p2 ws.length c2] 28)) (w.heap.size + 1) (by simp))
  rw [show (w.alloc (.cells #[.slice p1 ps.length c1, .slice p2 ws.length c2] 28)).heap.size = w.heap.size + 1 by simp] at O1
  obtain ⟨x0, x1⟩ := T1.out.cells
  obtain ⟨wa, hwa⟩ : ∃ wa, wa = (w.alloc (.cells #[.slice p1 ps.length c1, .slice p2 ws.length c2] 28)).alloc (.cells #[] 3) := ⟨_, rfl⟩
  rw [← hwa] at B1 T1 O1
  have sz : wa.heap.size = w.heap.size + 2 := by rw [hwa]; simp
  have SZ := Lib.hid sz
  have HBA := Lib.hid B1
  clear B1 sz
  cases hp : procB ps ws zs
  · rw [hp] at PC
    have CF := Lib.hid (show croB ps ws zs lo hi = false by unfold croB; rw [hp]; rfl)
    have IS := Lib.hid (show ifCro ps ws zs lo hi = [] by unfold ifCro; rw [CF.out]; rfl)
    rw [IS.out, CF.out]
    clear hp EN WY
    go_enter Try.func42, Try.ntmps42
    go_wp2_with fail
    rw [← hwa]
    clear hwa
    refine (PC.out _ HBA.out).mono ?_
    rintro e w1 ⟨rfl, b1⟩
    have FIN : Hid (NewIntsB [] false w (.returned (.tuple #[.slice (some ⟨w.heap.size + 1, 0, none⟩) 0 0, .bool false])) w1) := Lib.hid ⟨_, rfl, ((O1.out.below b1).wide b1.size (Nat.le_refl _)).low (by omega), HBA.out.trans (b1.mono HBA.out.size)⟩
    clear b1
    go_wp2_with fail
    go_ret2
    exact FIN.out
  · rw [hp] at PC
    have hCR : ∀ ok, croB ps ws zs lo hi = ok → Hid (croB ps ws zs lo hi = ok) := fun _ h => Lib.hid h
    have HCR := Lib.hid hCR
    clear hCR
    by_cases hcr : ¬ croB ps ws zs lo hi = true
    · have CF := Lib.hid (show croB ps ws zs lo hi = false from (by cases h : croB ps ws zs lo hi with
        | false => rfl
        | true => exact absurd h hcr))
      have IS := Lib.hid (show ifCro ps ws zs lo hi = [] by unfold ifCro; rw [CF.out]; rfl)
      have hge : lo ≥ hi := by
        have h := CF.out
        unfold croB at h
        rw [hp, Bool.true_and] at h
        have := of_decide_eq_false h
        omega
      rw [IS.out, CF.out]
      clear hp hcr EN WY HCR
      go_enter Try.func42, Try.ntmps42
      go_wp2_with fail
      rw [← hwa]
      clear hwa
      refine (PC.out _ HBA.out).mono ?_
      rintro e w1 ⟨rfl, b1⟩
      have FIN : Hid (NewIntsB [] false w (.returned (.tuple #[.slice (some ⟨w.heap.size + 1, 0, none⟩) 0 0, .bool false])) w1) := Lib.hid ⟨_, rfl, ((O1.out.below b1).wide b1.size (Nat.le_refl _)).low (by omega), HBA.out.trans (b1.mono HBA.out.size)⟩
      clear b1
      go_wp2_with fail
      go_ret2
      exact FIN.out
    have CT := Lib.hid (Decidable.not_not.1 hcr)
    have hge : ¬ lo ≥ hi := by
      have h := CT.out
      unfold croB at h
      rw [hp, Bool.true_and] at h
      have := of_decide_eq_true h
      omega
    have nge : decide (hi ≤ lo) = false := decide_eq_false hge
    have lh : lo < hi := by omega
    have LH := Lib.hid lh
    clear hcr HCR lh
    have IS := Lib.hid (show ifCro ps ws zs lo hi = crE ps zs lo hi by unfold ifCro; rw [CT.out]; rfl)
    have PR := Lib.hid (procB_iff.1 hp)
    have gd := PR.out.good
    have hn24 := gd.n24
    have hn0 := gd.n1
    have ZL := Lib.hid PR.out.len
    have EN2 := Lib.hid (EN.out gd)
    have WY2 := Lib.hid (WY.out gd)
    have EP := ends_pos gd
    have hel := Nat.le_trans (ends_le ps) hn24
    have EI := Lib.hid (fun i (hi : i < (endsT ps).length) => ends_in hi)
    have WW := Lib.hid (fun x (hx : x < ps.length) => way_all (ParOk.of gd) x hx)
    have FO := Lib.hid (fun (x : Nat) (hx : x < ps.length) => cr_fold PR.out lo hi hx)
    have HB' := Lib.hid (fun (x : Nat) (hx : x < ps.length) => cr_bd PR.out lo hi x hx)
    have HEA := Lib.hid (fun k (hk : k < (endsT ps).length) => map_at (E := endsT ps) (fun e => crM ((crT ps zs lo hi).getD e.toNat 0)) hk)
    have HEL : Hid ((crE ps zs lo hi).length = (endsT ps).length) := Lib.hid (by unfold crE; rw [List.length_map])
    have NXT := Lib.hid (fun k (hk : k < (crE ps zs lo hi).length) => take_next hk)
    have ALL : Hid (∀ k, (endsT ps).length ≤ k → (crE ps zs lo hi).take k = crE ps zs lo hi) := Lib.hid (fun k hk => List.take_of_length_le (by rw [HEL.out]; exact hk))
    have HEG : Hid (∀ k (x : Nat), k < (endsT ps).length → (x : Int) = (endsT ps).getD k 0 → (crE ps zs lo hi).getD k 0 = crM ((crT ps zs lo hi).getD x 0)) := Lib.hid (fun k x hk hx => by
      have := HEA.out k hk
      rw [← hx, Int.toNat_natCast] at this
      exact this)
    rw [IS.out, CT.out]
    clear hp EN WY gd HEA
    obtain ⟨HE, hHE⟩ : ∃ HE, HE = crE ps zs lo hi := ⟨_, rfl⟩
    rw [← hHE] at HEL NXT ALL HEG ⊢
    obtain ⟨E, hE⟩ : ∃ E, E = endsT ps := ⟨_, rfl⟩
    rw [← hE] at EN2 EP hel EI HEL ALL HEG
    clear hE hHE
    go_enter Try.func42, Try.ntmps42
    go_wp2_with fail
    rw [← hwa]
    clear hwa
    refine (PC.out _ HBA.out).mono ?_
    rintro e w1 ⟨rfl, b1⟩
    have HB1 := Lib.hid (HBA.out.trans (b1.mono HBA.out.size))
    have HT1 := Lib.hid (T1.out.below b1 T1.out.lt)
    have HO1 := Lib.hid ((O1.out.below b1).wide b1.size (Nat.le_refl _))
    clear b1 x0 x1
    obtain ⟨x0, x1⟩ := HT1.out.cells
    go_wp2_with fail
    refine (EN2.out _ HB1.out).mono ?_
    rintro e w2 ⟨ue, rfl, o2, b2⟩
    obtain ⟨g, ce, rfl, hg1, hg2⟩ := o2.shape EP
    have HB2 := Lib.hid (HB1.out.trans (b2.mono HB1.out.size))
    have HT2 := Lib.hid (HT1.out.below b2 HT1.out.lt)
    have HO2 := Lib.hid (HO1.out.below b2)
    have OE := Lib.hid o2
    have W1 : Hid (w.heap.size + 1 ≤ w1.heap.size) := Lib.hid (by have := HT1.out.lt; omega)
    have W12 := Lib.hid b2.size
    clear b2 o2 x0 x1 hg1 hg2 HB1 HT1 HO1 T1 O1 HBA
    have O3 := Lib.hid (HO2.out.wide W12.out (by have := OE.out.room; omega))
    have O4 := Lib.hid ((HO2.out.wide W12.out (Nat.le_refl _)))
    have DC := Lib.hid (fun j (hj : j < E.length) => OE.out.cellGet (j := j) hj)
    have Gw : Hid (w1.heap.size ≤ g ∧ g < w2.heap.size) := Lib.hid (by
      rcases OE.out.row.2 with ⟨h, _⟩ | ⟨g', cap', cur, h1, h2, _⟩
      · cases h
      · injection h1 with h1 h3 h4; injection h1 with h1; injection h1 with h1
        subst h1
        exact ⟨h2, OE.out.lt g rfl⟩)
    have SZ0 : Hid (w.heap.size + 1 < w1.heap.size) := Lib.hid (HO2.out.lt _ rfl)
    clear HO2 OE O3
    go_wp2
    go_loopg [10, 12] E.length (fun gg o i wr => ∃ k : Nat, k ≤ E.length ∧ E.length - k ≤ gg ∧ i = .int .i64 k ∧ Hid (OwnV wr (w.heap.size + 1) wr.heap.size o (HE.take k)) ∧ Hid (∀ q, o.ownBlock = some q → q ≠ g) ∧ Hid (∀ j, j < E.length → wr.cell? ⟨g, j, none⟩ = some (.int .i64 (E.getD j 0))) ∧ Hid (g < wr.heap.size) ∧ Hid (TBox wr w.heap.size (.slice p1 ps.length c1) (.slice p2 ws.length c2)) ∧ Hid (Below w.heap.size w wr))
    case atStart => exact ⟨0, Nat.zero_le _, by omega, rfl, O4, Lib.hid (fun q hq => by simp [Value.ownBlock] at hq; have := Gw.out; have := SZ0.out; omega), DC, Lib.hid Gw.out.2, HT2, HB2⟩
    case round =>
      obtain ⟨k, hk, hgg, rfl, HO, HQ, HDC, HG, HT, HB⟩ := hrel
      clear O4 DC HT2 HB2
      by_cases hlt : k < E.length
      · obtain ⟨x, hx, hxl, _⟩ := EI.out k hlt
        have hce := HDC.out k hlt
        have HV := Lib.hid (HEG.out k x hlt hx)
        rw [← hx] at hce
        have W := Lib.hid (WW.out x hxl)
        have FX := Lib.hid (FO.out x hxl)
        have HX := Lib.hid (HB'.out x hxl)
        have NX := Lib.hid (NXT.out k (by have := HEL.out; omega))
        have LL : (HE.take k).length ≤ 24 := by rw [List.length_take]; omega
        have C : Hid (∀ w', Hid (Below wr.heap.size wr w') → Calls Try.prog 71 #[.agg #[.slice p1 ps.length c1, .slice p2 ws.length c2], .int .i64 (x : Int)] w' (NewInts (wayT ps (x : Int)) w')) := Lib.hid (fun w' hb => WY2.out w' (hb_full HB hb) x hxl)
        have KC : Hid (∀ w', Hid (Below wr.heap.size wr w') → w'.cell? ⟨w.heap.size, 0, none⟩ = some (.slice p1 ps.length c1) ∧ w'.cell? ⟨w.heap.size, 1, none⟩ = some (.slice p2 ws.length c2) ∧ w'.cell? ⟨g, k, none⟩ = some (.int .i64 (x : Int))) := Lib.hid (fun w' hb => ⟨(HT.out.below hb.out HT.out.lt).cells.1, (HT.out.below hb.out HT.out.lt).cells.2, (hb.out.cell (p := ⟨g, k, none⟩) HG.out).trans hce⟩)
        have HD : Hid (Below wr.heap.size wr wr.drew) := Lib.hid (below_drew (Below.refl _ _))
        obtain ⟨x0, x1⟩ := HT.out.cells
        have i0' : (0 : Int) ≤ (k : Int) := by omega
        have i1 : (k : Int) < (E.length : Int) := by omega
        obtain ⟨L, hL⟩ : ∃ L, L = wayT ps (x : Int) := ⟨_, rfl⟩
        have WP : Hid (0 < L.length ∧ L.length ≤ 24) := Lib.hid (by rw [hL]; have := W.out.len; omega)
        have WN : Hid (∀ j, j < L.length → 0 ≤ L.getD j 0 ∧ L.getD j 0 < (ps.length : Int)) := Lib.hid (fun j hj => by rw [hL] at hj ⊢; have := W.out.node j hj; omega)
        rw [← hL] at C FX
        clear hL hx hce
        obtain ⟨HK, hHK⟩ : ∃ HK, HK = HE.take k := ⟨_, rfl⟩
        rw [← hHK] at HO NX LL
        rw [HV.out] at NX
        clear hHK
        go_wp2_with fail
        go_region_held3 (fun w' => w'.cell? ⟨w.heap.size, 0, none⟩ = some (.slice p1 ps.length c1) ∧ w'.cell? ⟨w.heap.size, 1, none⟩ = some (.slice p2 ws.length c2) ∧ w'.cell? ⟨g, k, none⟩ = some (.int .i64 (x : Int)))
          (first | exact KC.out _ HD | exact KC.out _ (by assumption) | go_keep)
          (first
            | (go_at_call 71; (with_reducible refine (C.out _ (by first | exact HD | assumption)).mono ?_); rintro e w3 ⟨u3, rfl, o3, b3⟩; (have HE3 := hb_next (wa := wr) (by first | exact HD | assumption) b3); (obtain ⟨gw, cw, rfl, _, hgw⟩ := o3.shape WP.out.1); (have DW := Lib.hid (fun j (hj : j < L.length) => o3.cellGet (j := j) hj)); clear b3 o3 hgw))
        all_goals
          have HB3 := Lib.hid (hb_full HB HE3)
          have HO3 := Lib.hid ((HO.out.below HE3.out).wide HE3.out.size (Nat.le_refl _))
          have HT3 := Lib.hid (HT.out.below HE3.out HT.out.lt)
          have HG3 : Hid (g < w3.heap.size) := Lib.hid (Nat.lt_of_lt_of_le HG.out HE3.out.size)
          have HDC3 : Hid (∀ j, j < E.length → w3.cell? ⟨g, j, none⟩ = some (.int .i64 (E.getD j 0))) := Lib.hid (fun j hj => (HE3.out.cell (p := ⟨g, j, none⟩) HG.out).trans (HDC.out j hj))
          have ZC : Hid (∃ b off, q = some ⟨b, off, none⟩ ∧ ∀ y : Nat, y < ps.length → w3.cell? ⟨b, off + y, none⟩ = some (.int .i64 (zs.getD y 0))) := Lib.hid (by
            obtain ⟨b, off, hq, hb, _⟩ := Q1.out.get (i := 0) (by have := ZL.out; omega)
            refine ⟨b, off, hq, fun y hy => ?_⟩
            obtain ⟨b', off', hq', hb', hc'⟩ := Q1.out.get (i := y) (by have := ZL.out; omega)
            rw [hq] at hq'
            injection hq' with hq'
            injection hq' with h1 h2
            subst h1; subst h2
            rw [HB3.out.cell (p := ⟨b, off + y, none⟩) hb', hc'])
          obtain ⟨bz, oz, hqz, hcz⟩ := ZC.out
          subst hqz
          have HCZ := Lib.hid hcz
          have le1 : zs.length ≤ ps.length := by have := ZL.out; omega
          have le2 : ps.length ≤ zs.length := by have := ZL.out; omega
          have wl := WP.out
          clear HO HT HG HDC HB HD KC C hcz ZC x0 x1
          go_wp2_with fail
          go_loopg [14, 15, 16] L.length (fun gi m b j wi => ∃ (kk : Nat) (c : Int), kk ≤ L.length ∧ L.length - kk ≤ gi ∧ 0 ≤ c ∧ c ≤ (kk : Int) ∧ j = .int .i64 kk ∧ m = .int .i64 (crM c) ∧ b = .bool (crB c) ∧ Hid (c = (L.take kk).foldl (fun a y => crSt lo hi a (zs.getD y.toNat 0)) 0) ∧ wi = w3)
          case atStart => exact ⟨0, 0, Nat.zero_le _, by omega, by omega, by omega, rfl, rfl, rfl, Lib.hid rfl, rfl⟩
          case round =>
            obtain ⟨kk, c, hkk, hgi, hc0, hck, rfl, rfl, rfl, HC, rfl⟩ := hrel
            by_cases hkl : kk < L.length
            · obtain ⟨n0, n1⟩ := WN.out kk hkl
              have hw := DW.out kk hkl
              have ft := fold_take (f := fun a y => crSt lo hi a (zs.getD y.toNat 0)) (a := 0) hkl
              rw [← HC.out] at ft
              have FT := Lib.hid ft
              clear ft
              obtain ⟨y, hy⟩ : ∃ y : Nat, (y : Int) = L.getD kk 0 := ⟨(L.getD kk 0).toNat, by omega⟩
              rw [← hy] at hw FT n0 n1
              have hzy := HCZ.out y (by omega)
              simp only [Int.toNat_natCast] at FT
              have i2 : (0 : Int) ≤ (kk : Int) := by omega
              have i3 : (kk : Int) < (L.length : Int) := by omega
              have i4 : (y : Int) < (zs.length : Int) := by omega
              obtain ⟨zy, hzz⟩ : ∃ zy, zy = zs.getD y 0 := ⟨_, rfl⟩
              rw [← hzz] at hzy FT
              obtain ⟨m, m0, m1, hm, hcs⟩ := cr_cases c hc0
              have m2 : m ≤ 24 := by omega
              have lh := LH.out
              clear hy hzz hm HC
              rcases hcs with ⟨rfl, hcb⟩ | ⟨rfl, hcb⟩
              · rw [crM_odd, crB_odd]
                clear hcb
                by_cases hzh : hi ≤ zy
                · rw [cr_ll lo hi m zy hzh] at FT
                  have nl : ¬ zy ≤ lo := by omega
                  have nl2 : decide (zy ≤ lo) = false := decide_eq_false nl
                  go_wp2_with fail
                  go_roundg (L.length - (kk + 1))
                  case rel => exact ⟨kk + 1, 2 * (m + 1), by omega, by omega, by omega, by omega, by go_num, by rw [crM_even], by rw [crB_even], Lib.hid FT.out.symm, by first | trivial | rfl⟩
                  case measure => omega
                · rw [cr_ln lo hi m zy hzh] at FT
                  have nl2 : decide (hi ≤ zy) = false := decide_eq_false hzh
                  clear lh
                  go_wp2_with fail
                  go_roundg (L.length - (kk + 1))
                  case rel => exact ⟨kk + 1, 2 * m + 1, by omega, by omega, by omega, by omega, by go_num, by rw [crM_odd], by rw [crB_odd], Lib.hid FT.out.symm, by first | trivial | rfl⟩
                  case measure => omega
              · rw [crM_even, crB_even]
                clear hcb lh
                by_cases hzh : zy ≤ lo
                · rw [cr_nl lo hi m zy hzh] at FT
                  go_wp2_with fail
                  go_roundg (L.length - (kk + 1))
                  case rel => exact ⟨kk + 1, 2 * m + 1, by omega, by omega, by omega, by omega, by go_num, by rw [crM_odd], by rw [crB_odd], Lib.hid FT.out.symm, by first | trivial | rfl⟩
                  case measure => omega
                · rw [cr_nn lo hi m zy hzh] at FT
                  have nl2 : decide (zy ≤ lo) = false := decide_eq_false hzh
                  go_wp2_with fail
                  go_roundg (L.length - (kk + 1))
                  case rel => exact ⟨kk + 1, 2 * m, by omega, by omega, by omega, by omega, by go_num, by rw [crM_even], by rw [crB_even], Lib.hid FT.out.symm, by first | trivial | rfl⟩
                  case measure => omega
            · have R : Hid (crM c = crM ((crT ps zs lo hi).getD x 0)) := Lib.hid (by rw [HC.out, List.take_of_length_le (by omega)]; exact congrArg crM FX.out)
              clear HC
              rw [R.out]
              obtain ⟨hv, hhv⟩ : ∃ hv, hv = crM ((crT ps zs lo hi).getD x 0) := ⟨_, rfl⟩
              rw [← hhv] at NX ⊢
              have HI := Lib.hid (show InI64 hv by rw [hhv]; have := HX.out; unfold InI64 crM; omega)
              have hown := HO3.out.row
              have hsz : w.heap.size + 1 ≤ wr.heap.size := by have := HT3.out.lt; omega
              clear hhv
              go_wp2_with (at_builtin; refine wpList_append_own_at _ rfl _ _ 22 rfl (w.heap.size + 1) 3 i0 (.int .i64 0) 1 8 Try.underlying22 hif hz0 hz1 hz2 rfl (by decide) _ HK.length (HK.map (.int .i64)) rfl (hown.alloc _) ⟨wr.heap.size, 0, none⟩ 1 1 [.int .i64 hv] rfl rfl (cell_one_new _ _ _) (fun x hx => by simp at hx; subst hx; rfl) (by unfold maxLen; omega) (by omega) (by simp; omega) ?_; intro v' w4 hown3 hgrow3 hnil3 hloc3)
              have bel3 := Lib.hid ((HB3.out.alloc HB3.out.size _).grown hgrow3 (by simp; omega) (fun q hq => by have := (hown.lt q hq).1; omega))
              have own3 := Lib.hid (HO3.out.app HI.out hown3)
              have box3 := Lib.hid ((HT3.out.alloc _).grown hgrow3 (fun q hq => (hown.lt q hq).1) (by omega))
              have q3 : Hid (∀ q, v'.ownBlock = some q → q ≠ g) := Lib.hid (fun q hq => by
                rcases hloc3 with h | h
                · exact HQ.out q (h.symm.trans hq)
                · rw [h] at hq; simp at hq; have := HG3.out; omega)
              have d3 : Hid (∀ j, j < E.length → w4.cell? ⟨g, j, none⟩ = some (.int .i64 (E.getD j 0))) := Lib.hid (fun j hj => by
                rw [ne_grownC hgrow3 (by simp; have := HG3.out; omega) HQ.out, World.cell?_alloc_lt _ _ _ (by exact HG3.out)]; exact HDC3.out j hj)
              have g3 : Hid (g < w4.heap.size) := Lib.hid (by have := hgrow3.size; simp at this; have := HG3.out; omega)
              clear hown hown3 hgrow3 hnil3 hloc3
              go_roundg (E.length - (k + 1))
              case rel => exact ⟨k + 1, by omega, by omega, by go_num, Lib.hid (by rw [NX.out]; exact own3.out), q3, d3, g3, box3, bel3⟩
              case measure => omega
      · rw [ALL.out k (by omega)] at HO
        have FIN : Hid (∀ o, OwnV wr (w.heap.size + 1) wr.heap.size o HE → NewIntsB HE true w (.returned (.tuple #[o, .bool true])) wr) := Lib.hid (fun o ho => ⟨_, rfl, ho.low (by omega), HB.out⟩)
        go_wp2
        go_ret2
        exact FIN.out _ HO.out
end Go.Proofs.Ytbpelmpipkkonaa
