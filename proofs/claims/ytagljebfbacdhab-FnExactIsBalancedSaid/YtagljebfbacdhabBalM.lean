/- IsBalanced in the model. -/
import Derived.Test.YtagljebfbacdhabBalP
import Derived.Test.YtagljebfbacdhabKid4
import Derived.Test.YtagljebfbacdhabPay4
import Derived.Test.YtagljebfbacdhabCutS
import Derived.Deep.RegionLaw
import Derived.BigQuiet
import Derived.BigRegion
import Derived.Deep.AppendLies
namespace Go.Proofs.Ytagljebfbacdhab
open Go.RowKit
set_option linter.unusedVariables false
theorem own_take {su zs : List Int} {n k : Nat} (h : k < n) : (ownT su zs n).take (k + 1) = (ownT su zs n).take k ++ [su.getD k 0 * zs.getD k 0] := by
  have hl : k < (ownT su zs n).length := by rw [ownT_len]; exact h
  rw [List.take_succ_eq_append_getElem hl]
  congr 2
  have := ownT_at (su := su) (zs := zs) h
  rw [List.getD_eq_getElem?_getD, List.getElem?_eq_getElem hl] at this
  exact this
set_option maxRecDepth 100000 in
set_option maxHeartbeats 8000000 in
theorem bal4S (ps ws zs : List Int) (v u : Value) (w : World) (pr : Proc ps ws zs) (h : TreeV w w.heap.size v ps ws) (hu : IntsV w w.heap.size u zs) :
    Calls Try.prog 84 #[v, u] w (Gives (.bool (steB ps ws zs true)) w) := by
  have gd := pr.good
  have SU := Lib.hid (fun w' (hb : Below w.heap.size w w') => sumsS ps ws v w' gd (h.boxed hb))
  have KS := Lib.hid (fun w' u2 (hb : Below w.heap.size w w') (x : Nat) (hx : x < ps.length) (hv : IntsV w' w'.heap.size u2 (ownT (sumsT ps ws) zs ps.length)) => kids4S ps ws (ownT (sumsT ps ws) zs ps.length) v u2 x w' gd hx (ownT_len _ _ _) (fun y hy => by have := own_small pr hy; rw [ownT_at hy]; omega) (h.boxed hb) hv)
  have hn24 := gd.n24
  have hn0 := gd.n1
  have WE := Lib.hid (fun (x : Nat) (hx : x < ps.length) => gd.end_iff hx)
  have WD := Lib.hid (fun (x : Nat) (hx : x < ps.length) => gd.w_bd hx)
  have NW := Lib.hid gd.nw
  have ZL := Lib.hid pr.len
  have SL := Lib.hid (sumsT_len gd.nw)
  have OB := Lib.hid (fun (x : Nat) (hx : x < ps.length) => own_small pr hx)
  have TK := Lib.hid (fun (k : Nat) (hk : k < ps.length) => own_take (su := sumsT ps ws) (zs := zs) hk)
  have AT := Lib.hid (fun (k : Nat) (hk : k < ps.length) => ownT_at (su := sumsT ps ws) (zs := zs) hk)
  have OL := Lib.hid (ownT_len (sumsT ps ws) zs ps.length)
  have NO := Lib.hid (fun (x : Nat) hx h => bal_no pr (x := x) hx h)
  have YES := Lib.hid (fun h => bal_yes pr h)
  have BA := Lib.hid (fun (x : Nat) => show balAt ps ws zs x = (leafB ps x || decide ((ownT (sumsT ps ws) zs ps.length).getD x 0 = kidT ps (ownT (sumsT ps ws) zs ps.length) x)) from rfl)
  obtain ⟨v1, v2, rfl, ⟨p1, c1, rfl, l1, m1, _, i1⟩, ⟨p2, c2, rfl, l2, m2, _, i2⟩⟩ := h
  have W2 := Lib.hid i2
  obtain ⟨q, d, rfl, _, _, _, j1⟩ := hu
  have Q1 := Lib.hid j1
  clear j1 gd pr i1 i2 m1 m2 l1 l2
  obtain ⟨S, hS⟩ : ∃ S, S = sumsT ps ws := ⟨_, rfl⟩
  rw [← hS] at SU KS SL OB TK AT OL BA
  obtain ⟨O, hO⟩ : ∃ O, O = ownT S zs ps.length := ⟨_, rfl⟩
  rw [← hO] at KS TK AT OL BA
  clear hS hO
  obtain ⟨i0, hi, hz0, hz1, hz2⟩ := info_parts intInfo
  have B1 := (Below.refl w.heap.size w).alloc (Nat.le_refl _) (.cells #[.slice p1 ps.length c1, .slice p2 ws.length c2] 28)
  have T1 := Lib.hid (show TBox (w.alloc (.cells #[.slice p1 ps.length c1, .slice p2 ws.length c2] 28)) w.heap.size (.slice p1 ps.length c1) (.slice p2 ws.length c2) from alloc_heap w _)
  obtain ⟨x0, x1⟩ := T1.out.cells
  obtain ⟨wa, hwa⟩ : ∃ wa, wa = w.alloc (.cells #[.slice p1 ps.length c1, .slice p2 ws.length c2] 28) := ⟨_, rfl⟩
  have sz : wa.heap.size = w.heap.size + 1 := by rw [hwa]; simp
  rw [← hwa] at B1 T1
  have HBA := Lib.hid B1
  have SZ := Lib.hid sz
  clear B1 sz
  go_enter Try.func84, Try.ntmps84
  go_wp2_with fail
  rw [← hwa]
  clear hwa x0 x1
  refine (SU.out _ HBA.out).mono ?_
  rintro e w2 ⟨u2, rfl, o2, b2⟩
  obtain ⟨g, cs, rfl, hg1, hg2⟩ := o2.shape (by have := SL.out; omega)
  have HBP := HBA.out.trans (b2.mono HBA.out.size)
  have HTP := T1.out.below b2 T1.out.lt
  have L1 : w.heap.size + 1 ≤ w2.heap.size := HTP.lt
  have HB2 := Lib.hid (HBP.alloc HBP.size (.cells #[] 3))
  have HT2 := Lib.hid (HTP.alloc (.cells #[] 3))
  have HO2 := Lib.hid (OwnV.empty w2 (w.heap.size + 1) L1)
  have DC : Hid (∀ j, j < ps.length → (w2.alloc (.cells #[] 3)).cell? ⟨g, j, none⟩ = some (.int .i64 (S.getD j 0))) := Lib.hid (fun j hj => by
    rw [World.cell?_alloc_lt _ _ _ (by exact hg2)]
    exact o2.cellGet (j := j) (by have := SL.out; omega))
  have HGD := Lib.hid (show g < (w2.alloc (.cells #[] 3)).heap.size from by simp; omega)
  have HGL := Lib.hid hg2
  clear b2 o2 T1 HBA hg1 hg2 HBP HTP L1
  obtain ⟨sn, hsn⟩ : ∃ sn, sn = S.length := ⟨_, rfl⟩
  have le3 : sn ≤ ps.length := by have := SL.out; omega
  have le4 : ps.length ≤ sn := by have := SL.out; omega
  have le1 : zs.length ≤ ps.length := by have := ZL.out; omega
  have le2 : ps.length ≤ zs.length := by have := ZL.out; omega
  rw [← hsn]
  clear hsn
  go_wp2_with fail
  go_loopw [6, 7] (fun o i wr => ∃ k go co : Nat, k ≤ ps.length ∧ i = .int .i64 k ∧ o = .slice (some ⟨go, 0, none⟩) (O.take k).length co ∧ Hid (OwnV wr (w.heap.size + 1) wr.heap.size (.slice (some ⟨go, 0, none⟩) (O.take k).length co) (O.take k)) ∧ Hid (go ≠ g) ∧ Hid (∀ j, j < ps.length → wr.cell? ⟨g, j, none⟩ = some (.int .i64 (S.getD j 0))) ∧ Hid (g < wr.heap.size) ∧ Hid (TBox wr w.heap.size (.slice p1 ps.length c1) (.slice p2 ws.length c2)) ∧ Hid (Below w.heap.size w wr)) (fun _ i _ => ps.length - (intOf i).toNat)
  case atStart => exact ⟨0, _, _, Nat.zero_le _, rfl, rfl, HO2, Lib.hid (by have := HGL.out; omega), DC, HGD, HT2, HB2⟩
  case round =>
    clear HO2 HT2 HB2 DC HGD
    obtain ⟨k, go, co, hk, rfl, rfl, HO, HQ, HD, HG, HT, HB⟩ := hrel
    obtain ⟨x0, x1⟩ := HT.out.cells
    by_cases hlt : k < ps.length
    · obtain ⟨bz, oz, hqz, hbz, hcz⟩ := Q1.out.get (i := k) (by omega)
      subst hqz
      have hz_k : wr.cell? ⟨bz, oz + k, none⟩ = some (.int .i64 (zs.getD k 0)) := by rw [HB.out.cell (p := ⟨bz, oz + k, none⟩) hbz, hcz]
      have hdk := HD.out k hlt
      have ob := OB.out k hlt
      have E := Lib.hid (TK.out k hlt)
      obtain ⟨dk, hdk2⟩ : ∃ t, t = S.getD k 0 := ⟨_, rfl⟩
      obtain ⟨zk, hzk⟩ : ∃ t, t = zs.getD k 0 := ⟨_, rfl⟩
      rw [← hdk2] at hdk ob E
      rw [← hzk] at hz_k ob E
      have lk : (O.take k).length = k := by rw [List.length_take, OL.out]; omega
      obtain ⟨L, hL⟩ : ∃ L, L = O.take k := ⟨_, rfl⟩
      rw [← hL] at HO E lk ⊢
      have IX := Lib.hid (show InI64 (dk * zk) by unfold InI64; omega)
      have i0' : (0 : Int) ≤ (k : Int) := by omega
      have i1' : (k : Int) < (ps.length : Int) := by omega
      have i2' : (k : Int) < (zs.length : Int) := by omega
      have i3' : (k : Int) < (sn : Int) := by omega
      have le5 : L.length ≤ k := by omega
      have le6 : k ≤ L.length := by omega
      have WE : Hid ((IntKind.i64.wrap (dk * zk)) = dk * zk) := Lib.hid (by rw [IntWalk.i64_in _ (by omega)])
      have hown := HO.out.row
      have hsz := HT.out.lt
      have hgl := HG.out
      clear ob lk hcz hdk2 hzk hbz hL
      have HOD := Lib.hid ((HO.out.below (below_drew (Below.refl _ _))).wide (Below.size (below_drew (Below.refl wr.heap.size wr))) (Nat.le_refl _))
      have hsd : w.heap.size < wr.drew.heap.size := hsz
      have HOA : Hid ((wr.alloc (.cells #[.int .i64 (IntKind.i64.wrap (dk * zk))] 3)).drew.ownsRow (w.heap.size + 1) 3 1 (.slice (some ⟨go, 0, none⟩) L.length co) L.length (L.map (.int .i64))) := Lib.hid (HO.out.row.alloc _)
      have HNA : Hid (∀ j u, [Value.int .i64 (IntKind.i64.wrap (dk * zk))][j]? = some u → (wr.alloc (.cells #[.int .i64 (IntKind.i64.wrap (dk * zk))] 3)).drew.cell? ((⟨wr.heap.size, 0, none⟩ : Addr).add j) = some u) := Lib.hid (cell_one_new wr _ 3)
      clear hown
      go_wp2_with fail
      go_region_law (refine step_append_lies _ rfl _ _ 22 rfl (w.heap.size + 1) 3 i0 (.int .i64 0) 1 8 Try.underlying22 hi hz0 hz1 hz2 rfl (by decide) _ L.length (L.map (.int .i64)) rfl HOA.out ⟨wr.heap.size, 0, none⟩ 1 1 [.int .i64 (IntKind.i64.wrap (dk * zk))] rfl rfl HNA.out (fun u hu => by simp at hu; subst hu; rfl) (by omega) (by unfold maxLen; omega) (by omega) (by simp; omega) _ rfl ?_; intro g4 cap4 w4 hown3 hgrow3 hat3 hlt3)
      all_goals
        rw [WE.out] at hown3 hgrow3
        have own3 := Lib.hid (HOD.out.app IX.out hown3)
        have bel3 := Lib.hid ((below_drew (HB.out.alloc HB.out.size _)).grown hgrow3 (by simp; omega) (fun q hq => by have := (HOA.out.lt q hq).1; omega))
        have box3 := Lib.hid (((HT.out.alloc (.cells #[.int .i64 (dk * zk)] 3)).below (below_drew (Below.refl _ _)) (HT.out.alloc (.cells #[.int .i64 (dk * zk)] 3)).lt).grown hgrow3 (fun q hq => (HOA.out.lt q hq).1) (by omega))
        have q3 : Hid (g4 ≠ g) := Lib.hid (by
          rcases hat3 with h | h
          · have h' : (some go : Option Nat) = some g4 := h
            injection h' with h'; have := HQ.out; omega
          · simp at h; omega)
        have d3 : Hid (∀ j, j < ps.length → w4.cell? ⟨g, j, none⟩ = some (.int .i64 (S.getD j 0))) := Lib.hid (fun j hj => by
          rw [ne_grown hgrow3 (by simp; omega) (fun q hq => by have h' : (some go : Option Nat) = some q := hq; injection h' with h'; have := HQ.out; omega)]
          show (wr.alloc _).cell? _ = _
          rw [World.cell?_alloc_lt _ _ _ (by exact hgl)]; exact HD.out j hj)
        have g3 : Hid (g < w4.heap.size) := Lib.hid (by have := hgrow3.size; simp at this; omega)
        clear hown3 hgrow3 hat3 hlt3
        go_wp2_with fail
        go_roundw
        case rel => exact ⟨k + 1, _, _, by omega, by go_num, by rw [E.out]; simp; rfl, Lib.hid (by rw [E.out]; simpa using own3.out), q3, d3, g3, box3, bel3⟩
        case measure => simp [intOf]; omega
    · have hkn : k = ps.length := by omega
      have HOT := HO.out
      rw [List.take_of_length_le (by rw [OL.out]; omega)] at HOT ⊢
      have HO2 := Lib.hid HOT
      obtain ⟨w3, hw3⟩ : ∃ w3, w3 = wr := ⟨_, rfl⟩
      rw [← hw3] at HO2 HT HB ⊢
      have OC := Lib.hid (fun j (hj : j < ps.length) => HO2.out.cellGet (j := j) (by rw [OL.out]; exact hj))
      have GO : Hid (go < w3.heap.size) := Lib.hid (HO2.out.lt go (by simp [Value.ownBlock]))
      have OI := Lib.hid HO2.out.intsV
      have i2' : ¬ (k : Int) < (zs.length : Int) := by omega
      obtain ⟨ol, hol⟩ : ∃ ol, ol = O.length := ⟨_, rfl⟩
      rw [← hol] at OI HO2 ⊢
      have le5 : ol ≤ ps.length := by have := OL.out; omega
      have le6 : ps.length ≤ ol := by have := OL.out; omega
      rw [← hw3] at x0 x1
      clear HOT HO hkn HQ HD HG hw3 hol
      go_wp2_with fail
      go_loopw [8] (fun i wr => ∃ k : Nat, k ≤ ps.length ∧ i = .int .i64 k ∧ Hid (∀ x, x < k → balAt ps ws zs x = true) ∧ Hid (Below w3.heap.size w3 wr)) (fun i _ => ps.length - (intOf i).toNat)
      case atStart => exact ⟨0, Nat.zero_le _, rfl, Lib.hid (fun x hx => by omega), Lib.hid (Below.refl _ _)⟩
      case round =>
        clear x0 x1
        obtain ⟨k, hk, rfl, HA, HBW⟩ := hrel
        have HBX := Lib.hid (HB.out.trans (HBW.out.mono HB.out.size))
        have HTX := Lib.hid (HT.out.below HBW.out HT.out.lt)
        obtain ⟨x0, x1⟩ := HTX.out.cells
        by_cases hlt : k < ps.length
        · obtain ⟨b, off, hq, hb, hc⟩ := W2.out.get (i := k) (by have := NW.out; omega)
          subst hq
          have hcw : wr.cell? ⟨b, off + k, none⟩ = some (.int .i64 (ws.getD k 0)) := by rw [HBX.out.cell (p := ⟨b, off + k, none⟩) hb]; exact hc
          have hco : wr.cell? ⟨go, k, none⟩ = some (.int .i64 (O.getD k 0)) := by rw [HBW.out.cell (p := ⟨go, k, none⟩) GO.out]; exact OC.out k hlt
          have we := WE.out k hlt
          have wd := WD.out k hlt
          have ba := BA.out k
          have NX : Hid (balAt ps ws zs k = true → ∀ x, x < k + 1 → balAt ps ws zs x = true) := Lib.hid (fun h x hx => by
            rcases Nat.lt_or_ge x k with h' | h'
            · exact HA.out x h'
            · obtain rfl : x = k := by omega
              exact h)
          have NK := Lib.hid (NO.out k hlt)
          have i0' : (0 : Int) ≤ (k : Int) := by omega
          have i1' : (k : Int) < (ps.length : Int) := by omega
          have i2' : (k : Int) < (zs.length : Int) := by omega
          have i3' : (k : Int) < (ws.length : Int) := by have := NW.out; omega
          have i4' : (k : Int) < (ol : Int) := by omega
          obtain ⟨wk, hwk⟩ : ∃ wk, wk = ws.getD k 0 := ⟨_, rfl⟩
          rw [← hwk] at hcw we wd
          clear hc hwk hb HA
          by_cases h1 : wk = 0
          · have hl : leafB ps k = false := by
              cases hl : leafB ps k
              · rfl
              · have := we.2 hl; omega
            rw [hl, Bool.false_or] at ba
            have CK : Hid (∀ w', Hid (Below wr.heap.size wr w') → Calls Try.prog 151 #[.agg #[.slice p1 ps.length c1, .slice (some ⟨b, off, none⟩) ws.length c2], .slice (some ⟨go, 0, none⟩) ol co, .int .i64 (k : Int)] w' (Gives (.int .i64 (kidT ps O k)) w')) := Lib.hid (fun w' hb => KS.out w' _ (hb_full HBX hb) k hlt ((OI.out.below (HBW.out.trans (hb.out.mono HBW.out.size))).more (Nat.le_trans HBW.out.size hb.out.size)))
            have hgw : go < wr.heap.size := Nat.lt_of_lt_of_le GO.out HBW.out.size
            have KC : Hid (∀ w', Hid (Below wr.heap.size wr w') → w'.cell? ⟨w.heap.size, 0, none⟩ = some (.slice p1 ps.length c1) ∧ w'.cell? ⟨w.heap.size, 1, none⟩ = some (.slice (some ⟨b, off, none⟩) ws.length c2) ∧ w'.cell? ⟨go, k, none⟩ = some (.int .i64 (O.getD k 0))) := Lib.hid (fun w' hb => ⟨(HTX.out.below hb.out HTX.out.lt).cells.1, (HTX.out.below hb.out HTX.out.lt).cells.2, (hb.out.cell (p := ⟨go, k, none⟩) hgw).trans hco⟩)
            obtain ⟨ok, hok⟩ : ∃ ok, ok = O.getD k 0 := ⟨_, rfl⟩
            obtain ⟨kk, hkk⟩ : ∃ kk, kk = kidT ps O k := ⟨_, rfl⟩
            rw [← hok] at hco ba KC
            rw [← hkk] at CK ba
            have hw0 : (wk == 0) = true := by simp [h1]
            subst h1
            have HD : Hid (Below wr.heap.size wr wr.drew) := Lib.hid (below_drew (Below.refl _ _))
            clear hok hkk we wd hw0
            have hwz : ((0 : Int) == 0) = true := rfl
            go_upto_region 9 with fail
            go_region_with (first
              | (go_at_call 151; (with_reducible refine (CK.out _ HD).mono ?_); rintro e w7 ⟨rfl, b7⟩; (have HB7 := hb_next (wa := wr) HD b7); (obtain ⟨z0, z1, z2⟩ := KC.out w7 HB7); clear b7))
            all_goals
              have HBY := Lib.hid (HBW.out.trans (HB7.out.mono HBW.out.size))
              have HBZ := Lib.hid (HB.out.trans (HBY.out.mono HB.out.size))
              by_cases h2 : ok = kk
              · have R := Lib.hid (NX.out (by rw [ba, decide_eq_true h2]))
                have hne : (ok != kk) = false := by simp [h2]
                clear NX NK ba h2
                go_wp2_with fail
                go_roundw
                case rel => exact ⟨k + 1, by omega, by go_num, R, HBY⟩
                case measure => simp [intOf]; omega
              · have R := Lib.hid (NK.out (by rw [ba, decide_eq_false h2]))
                have hne : (ok != kk) = true := by simpa using h2
                clear NX NK ba h2
                go_wp2_with fail
                go_ret
                exact ⟨ret_b R.out, HBZ.out⟩
          · have hl : leafB ps k = true := we.1 (by omega)
            have R := Lib.hid (NX.out (by rw [ba, hl]; rfl))
            have hw0 : (wk == 0) = false := by simp [h1]
            have HBD := HBW
            clear NX NK ba we
            go_upto_region 9 with fail
            go_quiet (fail)
            go_wp2_with fail
            go_roundw
            case rel => exact ⟨k + 1, by omega, by go_num, R, Lib.hid (by first | exact HBW.out | exact below_drew HBW.out | exact below_drewN HBW.out _)⟩
            case measure => simp [intOf]; omega
        · have R := Lib.hid (YES.out (fun x hx => HA.out x (by omega)))
          have i2' : ¬ (k : Int) < (zs.length : Int) := by omega
          clear HA
          go_wp2_with fail
          go_ret
          exact ⟨ret_b R.out, HBX.out⟩
set_option maxRecDepth 100000 in
set_option maxHeartbeats 4000000 in
theorem isBalM (ps ws zs : List Int) (v u : Value) (w : World) (hn9 : zs.length ≤ 1048576) (h : TreeV w w.heap.size v ps ws) (hu : IntsV w w.heap.size u zs) :
    Calls Try.prog 14 #[v, u] w (Gives (steV ps ws zs true) w) := by
  have PB := Lib.hid (fun w' (hb : Below w.heap.size w w') => pays4 ps ws zs v u w' hn9 (h.boxed hb) ((hu.below hb).more hb.size))
  have MS := Lib.hid (fun (p : Proc ps ws zs) w' (hb : Below w.heap.size w w') => bal4S ps ws zs v u w' p (h.boxed hb) ((hu.below hb).more hb.size))
  obtain ⟨p1, c1, p2, c2, rfl⟩ := h.shape
  obtain ⟨q, d, rfl, _⟩ := hu
  clear h
  have B1 := (Below.refl w.heap.size w).alloc (Nat.le_refl _) (.cells #[.slice p1 ps.length c1, .slice p2 ws.length c2] 28)
  have K0 := alloc_heap w (.cells #[.slice p1 ps.length c1, .slice p2 ws.length c2] 28)
  obtain ⟨wa, hwa⟩ : ∃ wa, wa = w.alloc (.cells #[.slice p1 ps.length c1, .slice p2 ws.length c2] 28) := ⟨_, rfl⟩
  rw [← hwa] at B1 K0
  have T1 := Lib.hid (show TBox wa w.heap.size (.slice p1 ps.length c1) (.slice p2 ws.length c2) from K0)
  have HBA := Lib.hid B1
  clear K0 B1
  obtain ⟨x0, x1⟩ := T1.out.cells
  cases hp : procB ps ws zs
  · rw [hp] at PB
    have R := Lib.hid (steV_no (fair := true) hp)
    clear hp MS
    go_enter Try.func14, Try.ntmps14
    go_wp2_with fail
    rw [← hwa]
    clear hwa
    refine (PB.out _ HBA.out).mono ?_
    rintro e w1 ⟨rfl, b1⟩
    have HB1 := Lib.hid (HBA.out.trans (b1.mono HBA.out.size))
    clear b1
    go_wp2_with fail
    go_ret2
    exact ⟨by rw [R.out]; rfl, HB1.out⟩
  · have MP := Lib.hid (MS.out (procB_iff.1 hp))
    have R := Lib.hid (steV_ok (fair := true) hp)
    rw [hp] at PB
    clear hp MS
    generalize steB ps ws zs true = bb at *
    go_enter Try.func14, Try.ntmps14
    go_wp2_with fail
    rw [← hwa]
    clear hwa
    refine (PB.out _ HBA.out).mono ?_
    rintro e w1 ⟨rfl, b1⟩
    have HB1 := Lib.hid (HBA.out.trans (b1.mono HBA.out.size))
    clear x0 x1
    obtain ⟨x0, x1⟩ := (T1.out.below b1 T1.out.lt).cells
    clear b1
    go_wp2_with fail
    refine (MP.out _ HB1.out).mono ?_
    rintro e w5 ⟨rfl, b5⟩
    have HB5 := Lib.hid (HB1.out.trans (b5.mono HB1.out.size))
    clear b5
    go_wp2_with fail
    go_ret2
    exact ⟨by rw [R.out]; rfl, HB5.out⟩
end Go.Proofs.Ytagljebfbacdhab
