/- DriftsOf in the program. -/
import Derived.Test.YtligidmkhbcpmacDriP
import Derived.Test.YtligidmkhbcpmacMeanI
import Derived.Test.YtligidmkhbcpmacDepthI
import Derived.IntWalk
import Derived.BigRegion
namespace Go.Proofs.Ytligidmkhbcpmac
open Go.RowKit
set_option linter.unusedVariables false
set_option maxRecDepth 100000 in
set_option maxHeartbeats 8000000 in
theorem driftsI (ps ws zs : List Int) (v u : Value) (w : World) (hn9 : zs.length ≤ 1048576) (h : TreeV w w.heap.size v ps ws) (hu : IntsV w w.heap.size u zs) :
    Calls Try.prog 242 #[v, u] w (NewQB (driLen ps ws zs) (drisL ps ws zs) (procB ps ws zs) w) := by
  have PC := Lib.hid (fun w' (hb : Below w.heap.size w w') => procI ps ws zs v u w' hn9 (h.boxed hb) ((hu.below hb).more hb.size))
  have SU := Lib.hid (fun (g : Good ps ws) w' (hb : Below w.heap.size w w') => sumsI ps ws v w' (h.boxed hb))
  obtain ⟨v1, v2, rfl, ⟨p1, c1, rfl, l1, m1, _, i1⟩, ⟨p2, c2, rfl, l2, m2, _, i2⟩⟩ := h
  have P1 := Lib.hid i1
  clear i1 i2 m1 m2 l1 l2
  obtain ⟨q1, d1, rfl, _, _, _, j1⟩ := hu
  have Q1 := Lib.hid j1
  clear j1
  have B1 := (Below.refl w.heap.size w).alloc (Nat.le_refl _) (.cells #[.slice p1 ps.length c1, .slice p2 ws.length c2] 29)
  have K0 := alloc_heap w (.cells #[.slice p1 ps.length c1, .slice p2 ws.length c2] 29)
  obtain ⟨wa, hwa⟩ : ∃ wa, wa = w.alloc (.cells #[.slice p1 ps.length c1, .slice p2 ws.length c2] 29) := ⟨_, rfl⟩
  rw [← hwa] at B1 K0
  have T1 := Lib.hid (show TBox wa w.heap.size (.slice p1 ps.length c1) (.slice p2 ws.length c2) from K0)
  have HBA := Lib.hid B1
  clear K0 B1
  obtain ⟨x0, x1⟩ := T1.out.cells
  cases hp : procB ps ws zs
  · rw [hp] at PC
    have ML : Hid (driLen ps ws zs = 0) := Lib.hid (by unfold driLen; rw [hp]; rfl)
    have MS : Hid (drisL ps ws zs = []) := Lib.hid (by unfold drisL; rw [hp]; rfl)
    rw [ML.out, MS.out]
    clear hp
    go_enter Try.func242, Try.ntmps242
    go_wp2_with fail
    rw [← hwa]
    clear hwa
    refine (PC.out _ HBA.out).mono ?_
    rintro e w1 ⟨rfl, b1⟩
    have HB1 := Lib.hid (HBA.out.trans (b1.mono HBA.out.size))
    clear b1
    go_wp2_with fail
    go_ret2
    exact newQ_empty HB1.out rfl
  · rw [hp] at PC
    have PR := Lib.hid (procB_iff.1 hp)
    have ML : Hid (driLen ps ws zs = ps.length) := Lib.hid (by unfold driLen; rw [if_pos hp])
    have MS : Hid (drisL ps ws zs = prL (driA ps ws zs) (driB ps ws zs) ps.length) := Lib.hid (by unfold drisL; rw [if_pos hp])
    rw [ML.out, MS.out]
    have gd := PR.out.good
    have hn24 := gd.n24
    have hn1 := gd.n1
    have hlz := PR.out.len
    have GP := Lib.hid gd.par
    have ZB := Lib.hid PR.out.bd
    have SU2 := Lib.hid (SU.out gd)
    have GT := Lib.hid ((goodT_iff ps ws).2 gd)
    rw [show goodT ps ws = true from GT.out, show ifGood ps ws (sumsT ps ws) = sumsT ps ws by unfold ifGood; rw [GT.out]; rfl] at SU2
    have SL : Hid ((sumsT ps ws).length = ps.length) := Lib.hid (sumsT_len gd.nw)
    have SB := Lib.hid (fun y (hy : y < ps.length) => sumsT_bd gd y hy)
    have DONE := Lib.hid (driL_one (S := sumsT ps ws) (zs := zs) gd.root gd.n1)
    have DSET := Lib.hid (fun (k j : Nat) (hk : k < ps.length) (hj : ps.getD k 0 = (j : Int)) (hjn : j < ps.length) => driL_set (S := sumsT ps ws) (zs := zs) hk hj hjn)
    have DAT := Lib.hid (fun (k x : Nat) (hx : x < ps.length) => driL_at (S := sumsT ps ws) (zs := zs) (k := k) hx)
    have DLN := Lib.hid (fun k => driL_len ps (sumsT ps ws) zs k)
    have DXB := Lib.hid (fun (x k : Nat) (hx : x < ps.length) (hk : k ≤ ps.length) => driX_bd PR.out hx hk)
    have STB := Lib.hid (fun (x y : Nat) (hx : x < ps.length) (hy : y < ps.length) => step_bd PR.out hx hy)
    have BD := Lib.hid (fun x (hx : x < ps.length) => driAB_bd PR.out hx)
    have RC : Hid (∀ (x : Nat) (w' : World), x < ps.length → Calls Try.prog 199 #[.int .i64 (driX ps (sumsT ps ws) zs ps.length x), .int .i64 ((sumsT ps ws).getD x 0)] w' (Gives (.tuple #[.agg #[.int .i64 (driA ps ws zs x), .int .i64 (driB ps ws zs x)], .bool true]) w')) := Lib.hid (fun x w' hx => by
      have h1 := driX_bd PR.out hx (Nat.le_refl _)
      have h2 := sums_pos PR.out.good x hx
      have h3 := (sumsT_bd PR.out.good x hx).2
      have h4 := reduceI_pos (driX ps (sumsT ps ws) zs ps.length x) ((sumsT ps ws).getD x 0) w' (by omega) (by omega)
      have h5 := small_inB (a := driX ps (sumsT ps ws) zs ps.length x) (b := (sumsT ps ws).getD x 0) (by omega) (by omega)
      unfold keptV at h4
      rw [if_pos h5] at h4
      exact h4)
    clear SU GT gd hp
    obtain ⟨S, hS⟩ : ∃ S, S = sumsT ps ws := ⟨_, rfl⟩
    obtain ⟨A, hA⟩ : ∃ A, A = driA ps ws zs := ⟨_, rfl⟩
    obtain ⟨B, hB⟩ : ∃ B, B = driB ps ws zs := ⟨_, rfl⟩
    rw [← hS] at SU2 SL SB DONE DSET DAT DLN DXB STB RC
    rw [← hA] at BD RC ⊢
    rw [← hB] at BD RC ⊢
    clear hS hA hB
    obtain ⟨i0, hi, hz0, hz1, hz2⟩ := info_parts intInfo
    have c1' : i0.bytes * ps.length ≤ 281474976710656 := by rw [hz2]; omega
    have c2' : ps.length ≤ maxLen := by unfold maxLen; omega
    rw [hlz] at PC ⊢
    have le1 : zs.length ≤ ps.length := by omega
    have le2 : ps.length ≤ zs.length := by omega
    clear hlz
    go_enter Try.func242, Try.ntmps242
    go_wp2_with fail
    rw [← hwa]
    clear hwa
    refine (PC.out _ HBA.out).mono ?_
    rintro e w1 ⟨rfl, b1⟩
    have HB1 := Lib.hid (HBA.out.trans (b1.mono HBA.out.size))
    have HT1 := Lib.hid (T1.out.below b1 T1.out.lt)
    clear b1 x0 x1
    obtain ⟨x0, x1⟩ := HT1.out.cells
    go_wp2_with fail
    refine (SU2.out _ HB1.out).mono ?_
    rintro e w2 ⟨us, rfl, o2, b2⟩
    obtain ⟨gs, cs, rfl, _, hgs⟩ := o2.shape (by have := SL.out; omega)
    have HB2 := Lib.hid (HB1.out.trans (b2.mono HB1.out.size))
    have HT2 := Lib.hid (HT1.out.below b2 HT1.out.lt)
    have DS := Lib.hid (fun j (hj : j < ps.length) => o2.cellGet (j := j) (by have := SL.out; omega))
    have HGS := Lib.hid hgs
    have hw2 : w.heap.size < w2.heap.size := HT2.out.lt
    rw [SL.out]
    clear b2 o2 hgs x0 x1 HB1 HT1 T1 HBA SU2 PC
    go_wp2_with (at_make; refine wpList_make_full _ rfl _ _ 22 rfl w2.heap.size 3 i0 (.int .i64 0) 1 Try.underlying22 hi hz0 hz1 .i64 .i64 _ _ ps.length rfl rfl rfl rfl c1' c2' (Nat.le_refl _) ?_; intro w3 hown hg2)
    have hown1 : w3.ownsRow w2.heap.size 3 1 (.slice (some ⟨w2.heap.size, 0, none⟩) ps.length ps.length) ps.length (List.replicate ps.length (.int .i64 0)) := by
      have h2 := hown
      rw [show (Value.int .i64 0).cells = #[Value.int .i64 0] from rfl, Nat.mul_one, toList_madeCells_one] at h2
      exact h2
    have O2 := Lib.hid (OwnV.made hown1)
    rw [← DONE.out] at O2
    have B2 := Lib.hid (HB2.out.grown hg2 HB2.out.size (fun q hq => by simp at hq))
    have T2 := Lib.hid (HT2.out.grown hg2 (lo := w2.heap.size) (fun q hq => by simp at hq) hw2)
    have bw : Below w2.heap.size w2 w3 := (Below.refl _ _).grown hg2 (Nat.le_refl _) (by simp)
    have D2 : Hid (∀ j, j < ps.length → w3.cell? ⟨gs, j, none⟩ = some (.int .i64 (S.getD j 0))) := Lib.hid (fun j hj => (bw.cell (p := ⟨gs, j, none⟩) HGS.out).trans (DS.out j hj))
    have S2 : Hid (gs < w3.heap.size ∧ w2.heap.size < w3.heap.size) := Lib.hid (by have := HGS.out; have := (hown1.lt w2.heap.size rfl).2; omega)
    obtain ⟨G, hG⟩ : ∃ G, G = w2.heap.size := ⟨_, rfl⟩
    have NP : Hid (gs ≠ G ∧ w.heap.size < G) := Lib.hid (by have := HGS.out; omega)
    rw [← hG] at O2 S2 ⊢
    clear hown hown1 hg2 c1' hi hz0 hz1 hz2 bw DS HGS HB2 HT2 hw2 hG DONE
    go_wp2_with fail
    go_loopg [9] ps.length (fun gg i wr => ∃ k : Nat, 1 ≤ k ∧ k ≤ ps.length ∧ ps.length - k ≤ gg ∧ i = .int .i64 k ∧ Hid (OwnV wr G wr.heap.size (.slice (some ⟨G, 0, none⟩) ps.length ps.length) (driL ps S zs k)) ∧ Hid (TBox wr w.heap.size (.slice p1 ps.length c1) (.slice p2 ws.length c2)) ∧ Hid (∀ j, j < ps.length → wr.cell? ⟨gs, j, none⟩ = some (.int .i64 (S.getD j 0))) ∧ Hid (gs < wr.heap.size ∧ G < wr.heap.size) ∧ Hid (Below w.heap.size w wr))
    case atStart => exact ⟨1, Nat.le_refl _, hn1, by omega, rfl, O2, T2, D2, S2, B2⟩
    case round =>
      obtain ⟨k, hk1, hk, hgg, rfl, HO, HT, HS, HZ, HB⟩ := hrel
      obtain ⟨x0, x1⟩ := HT.out.cells
      clear T2 B2 O2 D2 S2
      by_cases hlt : k < ps.length
      · obtain ⟨b, off, rfl, hb, hc⟩ := P1.out.get hlt
        obtain ⟨g1, g2⟩ := GP.out k (by omega) hlt
        obtain ⟨j, hj⟩ : ∃ j : Nat, ps.getD k 0 = (j : Int) := ⟨(ps.getD k 0).toNat, by omega⟩
        have hjk : j < k := by omega
        have hcw : wr.cell? ⟨b, off + k, none⟩ = some (.int .i64 j) := by rw [HB.out.cell (p := ⟨b, off + k, none⟩) hb, hc, hj]
        obtain ⟨bz, oz, rfl, hbz, hcz⟩ := Q1.out.get (i := k) (by omega)
        obtain ⟨bz', oz', ez, hbz', hcz'⟩ := Q1.out.get (i := j) (by omega)
        obtain ⟨rfl, rfl⟩ : bz = bz' ∧ oz = oz' := by injection ez with ez; injection ez with e1 e2; exact ⟨e1, e2⟩
        have hz_k : wr.cell? ⟨bz, oz + k, none⟩ = some (.int .i64 (zs.getD k 0)) := by rw [HB.out.cell (p := ⟨bz, oz + k, none⟩) hbz, hcz]
        have hz_j : wr.cell? ⟨bz, oz + j, none⟩ = some (.int .i64 (zs.getD j 0)) := by rw [HB.out.cell (p := ⟨bz, oz + j, none⟩) hbz, hcz']
        have hs_k := HS.out k hlt
        have hdj : wr.cell? ⟨G, j, none⟩ = some (.int .i64 (driX ps S zs k j)) := by
          rw [HO.out.cellGet (by rw [DLN.out]; omega), DAT.out k j (by omega)]
        have hfz : wr.frozen? ⟨G, j, none⟩ = false := HO.out.frozenGet j
        have se := DSET.out k j hlt hj (by omega)
        rw [DAT.out k j (by omega)] at se
        have db := STB.out j k (by omega) hlt
        have gb := DXB.out j k (by omega) hk
        have zb1 := ZB.out k (by omega)
        have zb2 := ZB.out j (by omega)
        obtain ⟨tj, htj⟩ : ∃ t, t = driX ps S zs k j := ⟨_, rfl⟩
        obtain ⟨a, ha⟩ : ∃ t, t = S.getD k 0 := ⟨_, rfl⟩
        obtain ⟨y1, hy1⟩ : ∃ t, t = zs.getD k 0 := ⟨_, rfl⟩
        obtain ⟨y2, hy2⟩ : ∃ t, t = zs.getD j 0 := ⟨_, rfl⟩
        rw [← htj] at hdj gb se
        rw [← ha] at hs_k db se
        rw [← hy1] at hz_k db se zb1
        rw [← hy2] at hz_j db se zb2
        clear hc hcz hcz' ez hj htj ha hy1 hy2 g1 g2 hbz'
        have O3 := Lib.hid (HO.out.setAt j (x := tj + a * (y1 - y2)) (by unfold InI64; omega))
        rw [se] at O3
        have hgG := NP.out
        have T3 := Lib.hid (HT.out.set (g := G) (o := j) (x := .int .i64 (tj + a * (y1 - y2))) (by omega))
        have B3 := Lib.hid (HB.out.setCell (p := ⟨G, j, none⟩) (by simp; omega) (.int .i64 (tj + a * (y1 - y2))))
        have S3 : Hid (∀ i, i < ps.length → (wr.setCell ⟨G, j, none⟩ (.int .i64 (tj + a * (y1 - y2)))).cell? ⟨gs, i, none⟩ = some (.int .i64 (S.getD i 0))) := Lib.hid (fun i hi => by
          rw [World.cell?_setCell_other _ _ _ _ (by intro c; injection c; omega)]
          exact HS.out i hi)
        have Z3 : Hid (gs < (wr.setCell ⟨G, j, none⟩ (.int .i64 (tj + a * (y1 - y2)))).heap.size ∧ G < (wr.setCell ⟨G, j, none⟩ (.int .i64 (tj + a * (y1 - y2)))).heap.size) := Lib.hid (by have := HZ.out; simpa using this)
        have i0' : (0 : Int) ≤ (k : Int) := by omega
        have i1' : (k : Int) < (ps.length : Int) := by omega
        have j0 : (0 : Int) ≤ (j : Int) := by omega
        have j1 : (j : Int) < (ps.length : Int) := by omega
        have WR : IntKind.i64.wrap (a * (y1 - y2)) = a * (y1 - y2) := IntWalk.i64_in _ (by omega)
        have db1 : -959040 ≤ a * (y1 - y2) ∧ a * (y1 - y2) ≤ 959040 := by omega
        clear HO HT HB HS HZ se db
        go_wp2_with fail
        go_region
        go_wp2_with fail
        go_roundg (ps.length - (k + 1))
        case rel => exact ⟨k + 1, by omega, by omega, by omega, by go_num, Lib.hid (by have h := O3.out.below (below_drew (Below.refl _ _)); simpa [World.setCell] using h), Lib.hid (show TBox _ _ _ _ from T3.out), Lib.hid (fun i hi => S3.out i hi), Lib.hid (by simpa [World.setCell] using Z3.out), Lib.hid (below_drew B3.out)⟩
        case measure => omega
      · obtain rfl : k = ps.length := by omega
        have DP : Hid (∀ j, j < ps.length → wr.cell? ⟨G, j, none⟩ = some (.int .i64 (driX ps S zs ps.length j))) := Lib.hid (fun j hj => by
          rw [HO.out.cellGet (by rw [DLN.out]; omega), DAT.out ps.length j hj])
        obtain ⟨w4, rfl⟩ : ∃ w4 : World, w4 = wr := ⟨_, rfl⟩
        obtain ⟨i0, hif, hz0, hz1, hz2⟩ := info_parts pairInfo
        have c1' : i0.bytes * ps.length ≤ 281474976710656 := by rw [hz2]; omega
        clear x0 x1 HO HT DSET DAT DLN DXB STB ZB GP
        go_wp2_with (at_make; refine wpList_make_full _ rfl _ _ 71 rfl w4.heap.size 26 i0 (.agg #[.int .i64 0, .int .i64 0]) 2 Try.underlying71 hif hz0 hz1 .i64 .i64 _ _ ps.length rfl rfl rfl rfl c1' c2' (Nat.le_refl _) ?_; intro w5 hown4 hgr4)
        have OM := Lib.hid (OwnQ.made hown4)
        rw [← halfQ_zero A B] at OM
        have b4 : Below w4.heap.size w4 w5 := (Below.refl _ _).grown hgr4 (Nat.le_refl _) (by simp)
        have HB4 := Lib.hid (HB.out.trans (b4.mono HB.out.size))
        have DP4 : Hid (∀ j, j < ps.length → w5.cell? ⟨G, j, none⟩ = some (.int .i64 (driX ps S zs ps.length j))) := Lib.hid (fun j hj => by rw [b4.cell (p := ⟨G, j, none⟩) HZ.out.2]; exact DP.out j hj)
        have DS4 : Hid (∀ j, j < ps.length → w5.cell? ⟨gs, j, none⟩ = some (.int .i64 (S.getD j 0))) := Lib.hid (fun j hj => by rw [b4.cell (p := ⟨gs, j, none⟩) HZ.out.1]; exact HS.out j hj)
        obtain ⟨H, hH⟩ : ∃ H, H = w4.heap.size := ⟨_, rfl⟩
        have NH : Hid (G ≠ H ∧ gs ≠ H ∧ w.heap.size ≤ H) := Lib.hid (by have := HZ.out; have := HB.out.size; omega)
        have SZ4 : Hid (G < w5.heap.size ∧ gs < w5.heap.size ∧ H < w5.heap.size) := Lib.hid (by have := HZ.out; have := (hown4.lt w4.heap.size rfl).2; omega)
        rw [← hH] at OM ⊢
        have HST := Lib.hid (fun k (hk : k < ps.length) => halfQ_set A B hk)
        have ALL := Lib.hid (fun k (hk : ps.length ≤ k) => halfQ_all A B hk)
        clear b4 hown4 hgr4 DP hz0 hz1 hz2 hif c1' hH HB HS HZ hlt hgg hk1 hk
        go_wp2_with fail
        go_loopg [62] ps.length (fun gg i wr => ∃ k : Nat, k ≤ ps.length ∧ ps.length - k ≤ gg ∧ i = .int .i64 k ∧ Hid (OwnQ wr H wr.heap.size (.slice (some ⟨H, 0, none⟩) ps.length ps.length) ps.length (halfQ A B ps.length k)) ∧ Hid (∀ j, j < ps.length → wr.cell? ⟨G, j, none⟩ = some (.int .i64 (driX ps S zs ps.length j))) ∧ Hid (∀ j, j < ps.length → wr.cell? ⟨gs, j, none⟩ = some (.int .i64 (S.getD j 0))) ∧ Hid (G < wr.heap.size ∧ gs < wr.heap.size ∧ H < wr.heap.size) ∧ Hid (Below w.heap.size w wr))
        case atStart => exact ⟨0, Nat.zero_le _, by omega, rfl, OM, DP4, DS4, SZ4, HB4⟩
        case round =>
          obtain ⟨k, hk, hgg, rfl, HO, HP, HS, HZ, HB⟩ := hrel
          clear OM DP4 DS4 SZ4 HB4
          by_cases hlt : k < ps.length
          · have hp := HP.out k hlt
            have hs := HS.out k hlt
            have RK := Lib.hid (fun w' => RC.out k w' hlt)
            have ST := Lib.hid (HST.out k hlt)
            have bd := BD.out k hlt
            obtain ⟨pk, hpk⟩ : ∃ z, z = driX ps S zs ps.length k := ⟨_, rfl⟩
            obtain ⟨sk, hsk⟩ : ∃ z, z = S.getD k 0 := ⟨_, rfl⟩
            rw [← hpk] at hp RK
            rw [← hsk] at hs RK
            obtain ⟨mn, hmn⟩ : ∃ z, z = A k := ⟨_, rfl⟩
            obtain ⟨md, hmd⟩ : ∃ z, z = B k := ⟨_, rfl⟩
            rw [← hmn] at RK ST bd
            rw [← hmd] at RK ST bd
            have IN : Hid (InI64 mn ∧ InI64 md) := Lib.hid (by unfold InI64; omega)
            have i0 : (0 : Int) ≤ (k : Int) := by omega
            have i1 : (k : Int) < (ps.length : Int) := by omega
            have HD : Hid (Below wr.heap.size wr wr.drew) := Lib.hid (below_drew (Below.refl _ _))
            have KC : Hid (∀ w', Hid (Below wr.heap.size wr w') → w'.cell? ⟨G, k, none⟩ = some (.int .i64 pk) ∧ w'.cell? ⟨gs, k, none⟩ = some (.int .i64 sk)) := Lib.hid (fun w' hb => ⟨(hb.out.cell (p := ⟨G, k, none⟩) HZ.out.1).trans hp, (hb.out.cell (p := ⟨gs, k, none⟩) HZ.out.2.1).trans hs⟩)
            obtain ⟨np1, np2, np3⟩ := NH.out
            clear hpk hsk hmn hmd hp hs bd
            go_wp2_with fail
            go_region_held3 (fun w' => w'.cell? ⟨G, k, none⟩ = some (.int .i64 pk) ∧ w'.cell? ⟨gs, k, none⟩ = some (.int .i64 sk))
              (first | exact KC.out _ HD | exact KC.out _ (by assumption) | exact ⟨(far2q np1).trans (KC.out _ (by assumption)).1, (far2q np2).trans (KC.out _ (by assumption)).2⟩ | go_keep)
              (first
                | (go_at_call 199; (with_reducible refine (RK.out _).mono ?_); rintro e w9 ⟨rfl, b9⟩; (have HE9 := hb_nextM (wa := wr) (by first | exact HD | assumption) b9); (have HO9 := Lib.hid (HO.out.below HE9.out)); (have t0 := HO9.out.cellGet (j := k * 2) (by omega)); (have t1 := HO9.out.cellGet (j := k * 2 + 1) (by omega)); (have f0 := HO9.out.row.frozenAt (k * 2)); (have f1 := HO9.out.row.frozenAt (k * 2 + 1)); clear b9))
            all_goals
              have ON := Lib.hid ((HO9.out.set2 k IN.out.1 IN.out.2).wide (hi' := w9.heap.size) (by have := HE9.out.size; omega) (by simp))
              rw [ST.out] at ON
              have PN : Hid (∀ j, j < ps.length → ((w9.setCell ⟨H, k * 2, none⟩ (.int .i64 mn)).setCell ⟨H, k * 2 + 1, none⟩ (.int .i64 md)).cell? ⟨G, j, none⟩ = some (.int .i64 (driX ps S zs ps.length j))) := Lib.hid (fun j hj => by rw [far2q np1, HE9.out.cell (p := ⟨G, j, none⟩) HZ.out.1]; exact HP.out j hj)
              have SN : Hid (∀ j, j < ps.length → ((w9.setCell ⟨H, k * 2, none⟩ (.int .i64 mn)).setCell ⟨H, k * 2 + 1, none⟩ (.int .i64 md)).cell? ⟨gs, j, none⟩ = some (.int .i64 (S.getD j 0))) := Lib.hid (fun j hj => by rw [far2q np2, HE9.out.cell (p := ⟨gs, j, none⟩) HZ.out.2.1]; exact HS.out j hj)
              have ZN : Hid (G < w9.heap.size ∧ gs < w9.heap.size ∧ H < w9.heap.size) := Lib.hid (by have := HZ.out; have := HE9.out.size; omega)
              have BN := Lib.hid (((HB.out.trans (HE9.out.mono HB.out.size)).setCell (p := ⟨H, k * 2, none⟩) np3 (.int .i64 mn)).setCell (p := ⟨H, k * 2 + 1, none⟩) np3 (.int .i64 md))
              clear HO HP HS HZ HB HO9 HE9 t0 t1 f0 f1 HD KC RK
              go_wp2_with fail
              go_roundg (ps.length - (k + 1))
              case rel => exact ⟨k + 1, by omega, by omega, by go_num, Lib.hid (by simpa using ON.out), PN, SN, Lib.hid (by simpa using ZN.out), BN⟩
              case measure => omega
          · rw [ALL.out k (by omega)] at HO
            have FIN : Hid (NewQB ps.length (prL A B k) true w (.returned (.tuple #[.slice (some ⟨H, 0, none⟩) ps.length ps.length, .bool true])) wr) := Lib.hid ⟨_, rfl, HO.out.low NH.out.2.2, HB.out⟩
            rw [show k = ps.length by omega] at FIN
            go_wp2
            go_ret2
            exact FIN.out
end Go.Proofs.Ytligidmkhbcpmac
