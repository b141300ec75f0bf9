/- PaysAtCut in the program. -/
import Derived.Test.YtonlibncccljgaaPcI
import Derived.Test.YtonlibncccljgaaCutA
namespace Go.Proofs.Ytonlibncccljgaa
open Go.RowKit
set_option linter.unusedVariables false
/-- What a node of the cut becomes. -/
def valF (ps ws vs : List Int) (d : Int) (z : Int) : Int := (pairF (cutT ps ws d) vs (cutT ps ws d).length z).getD 0
theorem pac_map {ps ws vs : List Int} {d : Int} (p : Pac ps ws vs d) : (cutN9 ps d).map (valF ps ws vs d) = pacL ps ws vs d := by
  unfold cutN9 pacL
  rw [List.map_map]
  refine List.map_congr_left fun e he => ?_
  obtain ⟨x, rfl, hx, hl⟩ := nodesW_mem he
  show (pairF (cutT ps ws d) vs (cutT ps ws d).length ((ancT ps d).getD ((x : Int)).toNat 0)).getD 0 = _
  rw [Int.toNat_natCast, p.look hx hl]; rfl
theorem okCut_okD (ps ws : List Int) (d : Int) : okCut ps ws d = okD ps ws d := rfl
theorem ifPac_no {ps ws vs : List Int} {d : Int} (h : pacB ps ws vs d = false) : ifPac ps ws vs d = [] := by unfold ifPac; rw [h]; rfl
theorem ifPac_ok {ps ws vs : List Int} {d : Int} (h : pacB ps ws vs d = true) : ifPac ps ws vs d = pacL ps ws vs d := by unfold ifPac; rw [if_pos h]
theorem newInts_emptyP {w w1 : World} (hb : Below w.heap.size w w1) {g : Nat} (hg : g = w1.heap.size) : NewIntsB [] false w (.returned (.tuple #[.slice (some ⟨g, 0, none⟩) 0 0, .bool false])) (w1.alloc (.cells #[] 3)) := by
  subst hg; exact newInts_empty hb
set_option maxRecDepth 100000 in
set_option maxHeartbeats 8000000 in
theorem pacI (ps ws vs : List Int) (d : Int) (v u : Value) (w : World) (hl9 : vs.length ≤ 1048576) (h : TreeV w w.heap.size v ps ws) (hu : IntsV w w.heap.size u vs) :
    Calls Try.prog 34 #[v, .int .i64 d, u] w (NewIntsB (ifPac ps ws vs d) (pacB ps ws vs d) w) := by
  have CU := Lib.hid (fun w' (hb : Below w.heap.size w w') => cutI ps ws v d w' (h.boxed hb))
  have CN := Lib.hid (fun (g : Good ps ws) (hd : 0 ≤ d) w' (hb : Below w.heap.size w w') => cutNodesI ps ws v d w' g hd (h.boxed hb))
  obtain ⟨p1, c1, p2, c2, rfl⟩ := h.shape
  clear h
  obtain ⟨q, cq, rfl, lq, mq, zq, iq⟩ := hu
  have E1 := Lib.hid iq
  have Z1 := Lib.hid zq
  clear iq zq mq
  have B1 := (Below.refl w.heap.size w).alloc (Nat.le_refl _) (.cells #[.slice p1 ps.length c1, .slice p2 ws.length c2] 29)
  obtain ⟨wa, hwa⟩ : ∃ wa, wa = w.alloc (.cells #[.slice p1 ps.length c1, .slice p2 ws.length c2] 29) := ⟨_, rfl⟩
  have T1 : Hid (TBox wa w.heap.size (.slice p1 ps.length c1) (.slice p2 ws.length c2)) := Lib.hid (by rw [hwa]; exact alloc_heap w _)
  rw [← hwa] at B1
  have HBA := Lib.hid B1
  clear B1
  obtain ⟨x0, x1⟩ := T1.out.cells
  cases hok : okCut ps ws d
  · have IC : ifCut ps ws d (cutT ps ws d) = [] := by
      unfold ifCut
      rw [if_neg (fun c => by unfold okCut at hok; rw [c.1, decide_eq_true c.2] at hok; cases hok)]
    rw [hok, IC] at CU
    have PN : pacB ps ws vs d = false := by unfold pacB; rw [← okCut_okD, hok]; rfl
    have R1 := Lib.hid (ifPac_no PN)
    have R2 := Lib.hid PN
    rw [R1.out, R2.out]
    clear hok IC PN CN
    go_enter Try.func34, Try.ntmps34
    go_wp2_with fail
    rw [← hwa]
    clear hwa
    refine (CU.out _ HBA.out).mono ?_
    rintro e w1 ⟨uc, rfl, o1, b1⟩
    obtain ⟨pu, cu, rfl, _⟩ := o1.intsV
    have HB1 := Lib.hid (HBA.out.trans (b1.mono HBA.out.size))
    clear b1 o1
    go_wp2_with fail
    go_ret2
    exact newInts_emptyP HB1.out rfl
  · have hgd : goodT ps ws = true ∧ 0 ≤ d := by
      unfold okCut at hok
      rw [Bool.and_eq_true, decide_eq_true_iff] at hok
      exact hok
    have IC : ifCut ps ws d (cutT ps ws d) = cutT ps ws d := by unfold ifCut; rw [if_pos hgd]
    rw [hok, IC] at CU
    have gd := Good.of hgd.1
    have hd := hgd.2
    have hn24 := gd.n24
    have hn1 := gd.n1
    have CN2 := Lib.hid (CN.out gd hd)
    have hel := Nat.le_trans (ends_le ps) hn24
    have hcl : (cutT ps ws d).length ≤ 24 := Nat.le_trans (nodesW_len _ _) hn24
    have EP := ends_pos gd
    have NP : 0 < (cutT ps ws d).length := by
      obtain ⟨x, _, hx, hl⟩ := ends_in (ps := ps) (i := 0) EP
      exact Nat.lt_of_le_of_lt (Nat.zero_le _) (crank_at gd hd hx hl).1
    have KP : 0 < (cutN9 ps d).length := by rw [cutN9_len]; exact EP
    have KL : (cutN9 ps d).length ≤ 24 := by rw [cutN9_len]; exact hel
    have CI := Lib.hid (fun i (hi : i < (cutT ps ws d).length) => cut_in (ps := ps) (ws := ws) (d := d) hi)
    have PB : Hid (pacB ps ws vs d = (decide (vs.length = (cutT ps ws d).length) && vs.all payOk)) := Lib.hid (by unfold pacB; rw [← okCut_okD, hok]; rfl)
    have BAD := Lib.hid (fun (i : Nat) (hi : i < vs.length) h => pacB_no (ps := ps) (ws := ws) (d := d) hi h)
    have NO := Lib.hid (fun h => ifPac_no (ps := ps) (ws := ws) (vs := vs) (d := d) h)
    have YES := Lib.hid (fun h => ifPac_ok (ps := ps) (ws := ws) (vs := vs) (d := d) h)
    have MAP := Lib.hid (fun (h : pacB ps ws vs d = true) => pac_map (pacB_iff.1 h))
    have KIN : Hid (∀ i, i < (cutN9 ps d).length → 0 ≤ (cutN9 ps d).getD i 0 ∧ (cutN9 ps d).getD i 0 ≤ 24) := Lib.hid (fun i hi => by
      rw [cutN9_len] at hi
      obtain ⟨x, hx, hxl, _⟩ := ends_in (ps := ps) hi
      rw [cutN9_at hi, ← hx, Int.toNat_natCast]
      have := anc_in (ParOk.of gd) hd x hxl
      omega)
    have VIN : Hid (pacB ps ws vs d = true → ∀ i, i < (cutN9 ps d).length → ∃ z, pairF (cutT ps ws d) vs (cutT ps ws d).length ((cutN9 ps d).getD i 0) = some z ∧ valF ps ws vs d ((cutN9 ps d).getD i 0) = z ∧ -999 ≤ z ∧ z ≤ 999) := Lib.hid (fun hb i hi => by
      have p := pacB_iff.1 hb
      rw [cutN9_len] at hi
      obtain ⟨x, hx, hxl, hl⟩ := ends_in (ps := ps) hi
      have e1 : (cutN9 ps d).getD i 0 = (ancT ps d).getD x 0 := by rw [cutN9_at hi, ← hx, Int.toNat_natCast]
      have e2 := p.look hxl hl
      have e3 := (crank_at (ws := ws) gd hd hxl hl).1
      refine ⟨_, by rw [e1]; exact e2, by unfold valF; rw [e1, e2]; rfl, ?_⟩
      exact p.bd _ (by rw [p.len]; exact e3))
    have HS := Lib.hid (fun k (hk : k < (cutN9 ps d).length) => hafE_set (es := cutN9 ps d) (valF ps ws vs d) hk)
    have HA := Lib.hid (fun k (hk : k < (cutN9 ps d).length) => hafE_at (es := cutN9 ps d) (valF ps ws vs d) hk)
    have HL := Lib.hid (hafE_len (cutN9 ps d) (valF ps ws vs d))
    have H0 := Lib.hid (hafE_zero (cutN9 ps d) (valF ps ws vs d))
    have HE := Lib.hid (fun k (hk : (cutN9 ps d).length ≤ k) => hafE_all (cutN9 ps d) (valF ps ws vs d) hk)
    obtain ⟨N, hN⟩ : ∃ N, N = cutT ps ws d := ⟨_, rfl⟩
    obtain ⟨K, hK⟩ : ∃ K, K = cutN9 ps d := ⟨_, rfl⟩
    obtain ⟨f, hf⟩ : ∃ f, f = valF ps ws vs d := ⟨_, rfl⟩
    rw [← hN] at CU hcl NP CI PB VIN
    rw [← hK] at CN2 KP KL MAP KIN VIN HS HA HL H0 HE
    rw [← hf] at MAP VIN HS HA HL H0 HE
    clear hN hK hf hok IC hgd gd hd CN EP hel
    go_enter Try.func34, Try.ntmps34
    go_wp2_with fail
    rw [← hwa]
    clear hwa
    refine (CU.out _ HBA.out).mono ?_
    rintro e w1 ⟨uc, rfl, o1, b1⟩
    obtain ⟨g, ce, rfl, hg1, hg2⟩ := o1.shape NP
    have HB1 := Lib.hid (HBA.out.trans (b1.mono HBA.out.size))
    have T2 := Lib.hid (T1.out.below b1 T1.out.lt)
    have DC := Lib.hid (fun j (hj : j < N.length) => o1.cellGet hj)
    have G2 := Lib.hid hg2
    clear b1 x0 x1 o1 hg1 hg2 CU T1 HBA
    by_cases hlen : vs.length = N.length
    · have L1 := Lib.hid hlen
      rw [hlen]
      have HB2 := Lib.hid (HB1.out.alloc HB1.out.size (.map #[] 0))
      have HM2 := Lib.hid (MapI.made w1)
      have T3 := Lib.hid (T2.out.alloc (.map #[] 0))
      have D2 : Hid (∀ j, j < N.length → (w1.alloc (.map #[] 0)).cell? ⟨g, j, none⟩ = some (.int .i64 (N.getD j 0))) := Lib.hid (fun j hj => by rw [World.cell?_alloc_lt _ _ _ (by exact G2.out)]; exact DC.out j hj)
      obtain ⟨M, hM⟩ : ∃ M, M = w1.heap.size := ⟨_, rfl⟩
      have MW : Hid (w.heap.size < M) := Lib.hid (by rw [hM]; exact T2.out.lt)
      have MG : Hid (g < M) := Lib.hid (by rw [hM]; exact G2.out)
      obtain ⟨wb, hwb⟩ : ∃ wb, wb = w1.alloc (.map #[] 0) := ⟨_, rfl⟩
      rw [← hwb] at HB2 HM2 D2 T3
      rw [← hM] at HM2
      clear HB1 DC G2 hlen T2
      have hmm := @run_makeMap Try.prog
      go_wp2_with fail
      rw [← hwb, ← hM]
      clear hwb hM
      go_loopw [35] (fun i wr => ∃ k : Nat, k ≤ N.length ∧ i = .int .i64 k ∧ Hid (MapI wr M k (pairF N vs k)) ∧ Hid (∀ j, j < N.length → wr.cell? ⟨g, j, none⟩ = some (.int .i64 (N.getD j 0))) ∧ Hid (TBox wr w.heap.size (.slice p1 ps.length c1) (.slice p2 ws.length c2)) ∧ Hid (Below w.heap.size w wr) ∧ Hid (∀ j, j < k → payOk (vs.getD j 0) = true)) (fun i _ => N.length - (intOf i).toNat)
      case atStart => exact ⟨0, Nat.zero_le _, rfl, HM2, D2, T3, HB2, Lib.hid (fun j hj => by omega)⟩
      case round =>
        obtain ⟨k, hk, rfl, HM, HD, HT, HB, HA9⟩ := hrel
        clear HM2 D2 HB2 T3
        by_cases hlt : k < N.length
        · have hce := HD.out k hlt
          have hltv : k < vs.length := by have := L1.out; omega
          obtain ⟨b, off, rfl, hb, hc⟩ := E1.out.get hltv
          have hcw : wr.cell? ⟨b, off + k, none⟩ = some (.int .i64 (vs.getD k 0)) := by rw [HB.out.cell (p := ⟨b, off + k, none⟩) hb]; exact hc
          obtain ⟨xn, hxn, hxl, _⟩ := CI.out k hlt
          have i0 : (0 : Int) ≤ (k : Int) := by omega
          have i1 : (k : Int) < (N.length : Int) := by omega
          have FA := Lib.hid (BAD.out k hltv)
          have NX : Hid (payOk (vs.getD k 0) = true → ∀ j, j < k + 1 → payOk (vs.getD j 0) = true) := Lib.hid (fun h j hj => by
            rcases Nat.lt_or_ge j k with h' | h'
            · exact HA9.out j h'
            · obtain rfl : j = k := by omega
              exact h)
          have PF : Hid (putF (pairF N vs k) (N.getD k 0) (some (vs.getD k 0)) = pairF N vs (k + 1)) := Lib.hid rfl
          have HZ := Lib.hid (show InI64 (vs.getD k 0) from Z1.out _ (by rw [List.getD_eq_getElem?_getD, List.getElem?_eq_getElem hltv]; exact List.getElem_mem hltv))
          obtain ⟨z, hz⟩ : ∃ z, z = vs.getD k 0 := ⟨_, rfl⟩
          rw [← hz] at hcw FA NX PF HZ
          rw [← hxn] at hce PF
          have C := Lib.hid (isPayI z wr)
          clear hc hz hxn HA9
          obtain ⟨t, ht⟩ : ∃ t, t = payOk z := ⟨_, rfl⟩
          rw [← ht] at C FA NX
          clear ht
          cases t
          · have R := Lib.hid (FA.out rfl)
            have R1 := Lib.hid (NO.out R.out)
            have FIN : Hid (NewIntsB (ifPac ps ws vs d) (pacB ps ws vs d) w (.returned (.tuple #[.slice (some ⟨wr.heap.size, 0, none⟩) 0 0, .bool false])) (wr.alloc (.cells #[] 3))) := Lib.hid (by rw [R1.out, R.out]; exact newInts_emptyP HB.out rfl)
            clear FA NX PF R R1
            go_wp2_with fail
            refine C.out.mono ?_
            rintro e w2 ⟨rfl, rfl⟩
            go_wp2
            go_ret2
            exact FIN.out
          · have N2 := Lib.hid (NX.out rfl)
            clear FA NX
            go_wp2_with fail
            refine C.out.mono ?_
            rintro e w2 ⟨rfl, rfl⟩
            go_wp2_with (at_mapUpdate; refine mapI_put _ rfl _ _ _ _ rfl Try.underlying86 M k _ rfl HM.out (by unfold maxLen; omega) (xn : Int) z rfl rfl (inI64_nat (by omega)) HZ.out ?_; intro w3 h3 g3)
            have A1 : Hid (MapI w3 M (k + 1) (pairF N vs (k + 1))) := Lib.hid (by rw [← PF.out]; exact h3)
            have A2 : Hid (∀ j, j < N.length → w3.cell? ⟨g, j, none⟩ = some (.int .i64 (N.getD j 0))) := Lib.hid (fun j hj => by
              rw [ne_grownP g3 (by have := HM.out.lt; have := MG.out; omega) (fun q hq => by injection hq; have := MG.out; omega)]; exact HD.out j hj)
            have A3 := Lib.hid (HB.out.grown g3 HB.out.size (fun q hq => by injection hq; have := MW.out; omega))
            have A4 := Lib.hid (HT.out.grown g3 (lo := M) (fun q hq => by injection hq; omega) MW.out)
            clear h3 g3
            go_roundw
            case rel => exact ⟨k + 1, by omega, by go_num, A1, A2, A4, A3, N2⟩
            case measure => simp [intOf]; omega
        · obtain rfl : k = N.length := by omega
          have R : Hid (pacB ps ws vs d = true) := Lib.hid (by
            rw [PB.out, decide_eq_true L1.out, Bool.true_and, List.all_eq_true]
            intro z hz
            obtain ⟨i, hi, rfl⟩ := mem_getD hz
            exact HA9.out i (by have := L1.out; omega))
          have R1 := Lib.hid (YES.out R.out)
          have MP := Lib.hid (MAP.out R.out)
          have VI := Lib.hid (VIN.out R.out)
          obtain ⟨x0, x1⟩ := HT.out.cells
          clear HA9 HD BAD NO YES MAP VIN PB
          go_wp2_with fail
          refine (CN2.out _ HB.out).mono ?_
          rintro e w5 ⟨uk, rfl, o5, b5⟩
          obtain ⟨gn, ck, rfl, hk1, hk2⟩ := o5.shape KP
          have HB5 := Lib.hid (HB.out.trans (b5.mono HB.out.size))
          have HM5 := Lib.hid (HM.out.next b5)
          have NM : Hid (M ≠ gn ∧ w.heap.size ≤ gn) := Lib.hid (by have := HM.out.lt; have := HB.out.size; omega)
          have O5 : Hid (OwnV w5 w.heap.size w5.heap.size (.slice (some ⟨gn, 0, none⟩) K.length ck) (hafE K f 0)) := Lib.hid (by rw [H0.out]; exact o5.low HB.out.size)
          clear b5 o5 x0 x1 HM HB HT CN2 H0 hk1 hk2
          go_wp2_with fail
          go_loopg [59] K.length (fun gg i wr => ∃ k : Nat, k ≤ K.length ∧ K.length - k ≤ gg ∧ i = .int .i64 k ∧ Hid (OwnV wr w.heap.size wr.heap.size (.slice (some ⟨gn, 0, none⟩) K.length ck) (hafE K f k)) ∧ Hid (MapI wr M N.length (pairF N vs N.length)) ∧ Hid (Below w.heap.size w wr))
          case atStart => exact ⟨0, Nat.zero_le _, by omega, rfl, O5, HM5, HB5⟩
          case round =>
            obtain ⟨k, hk, hgg, rfl, HO, HM, HB⟩ := hrel
            clear O5 HM5 HB5
            by_cases hlt : k < K.length
            · have hce := HO.out.cellGet (j := k) (by rw [HL.out]; exact hlt)
              rw [HA.out k hlt] at hce
              have hfz := HO.out.frozenGet k
              obtain ⟨y, hy1, hy2, hy3, hy4⟩ := VI.out k hlt
              obtain ⟨kb1, kb2⟩ := KIN.out k hlt
              have SE := Lib.hid (HS.out k hlt)
              rw [hy2] at SE
              have LK := Lib.hid hy1
              have i0 : (0 : Int) ≤ (k : Int) := by omega
              have i1 : (k : Int) < (K.length : Int) := by omega
              obtain ⟨z, hz⟩ : ∃ z, z = K.getD k 0 := ⟨_, rfl⟩
              rw [← hz] at hce LK kb1 kb2
              have O3 := HO.out.setAt k (x := y) (by unfold InI64; omega)
              rw [SE.out] at O3
              have O4 := Lib.hid O3
              obtain ⟨nm1, nm2⟩ := NM.out
              have M4 := Lib.hid (HM.out.set (g := gn) (o := k) (v := .int .i64 y) nm1)
              have B4 := Lib.hid (HB.out.setCell (p := ⟨gn, k, none⟩) nm2 (.int .i64 y))
              have LG : Hid ((pairF N vs N.length z).getD 0 = y) := Lib.hid (by rw [LK.out]; rfl)
              clear hz hy1 hy2 O3 HO HB LK
              go_wp2_with (at_lookup; refine mapI_get _ rfl _ _ _ rfl Try.underlying86 M N.length _ rfl HM.out z rfl (by unfold InI64; omega) ?_; rw [LG.out])
              go_roundg (K.length - (k + 1))
              case rel => exact ⟨k + 1, by omega, by omega, by go_num, Lib.hid (by simpa [World.setCell] using O4.out), M4, B4⟩
              case measure => omega
            · rw [HE.out k (by omega), MP.out] at HO
              have LL : Hid ((pacL ps ws vs d).length = K.length) := Lib.hid (by rw [← MP.out]; simp)
              have FIN : Hid (NewIntsB (ifPac ps ws vs d) (pacB ps ws vs d) w (.returned (.tuple #[.slice (some ⟨gn, 0, none⟩) K.length ck, .bool true])) wr) := Lib.hid (by
                rw [R1.out, R.out]
                exact ⟨_, rfl, HO.out, HB.out⟩)
              clear HO HM HB R R1 MP LL
              go_wp2
              go_ret2
              exact FIN.out
    · have R : Hid (pacB ps ws vs d = false) := Lib.hid (by rw [PB.out, decide_eq_false hlen]; rfl)
      have R1 := Lib.hid (NO.out R.out)
      have nb : ((vs.length : Int) != (N.length : Int)) = true := by rw [bne_iff_ne]; omega
      have FIN : Hid (NewIntsB (ifPac ps ws vs d) (pacB ps ws vs d) w (.returned (.tuple #[.slice (some ⟨w1.heap.size, 0, none⟩) 0 0, .bool false])) (w1.alloc (.cells #[] 3))) := Lib.hid (by rw [R1.out, R.out]; exact newInts_emptyP HB1.out rfl)
      clear hlen R R1
      go_wp2_with fail
      go_ret2
      exact FIN.out
end Go.Proofs.Ytonlibncccljgaa
