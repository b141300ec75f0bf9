/- MeansOf in the program. -/
import Derived.Test.YtagljebfbacdhabMeanP
import Derived.Test.YtagljebfbacdhabFracB
import Derived.Test.YtagljebfbacdhabSumsI
import Derived.Deep.RegionHeld3
import Derived.BigQuiet
import Derived.Deep.LoopGhost
namespace Go.Proofs.Ytagljebfbacdhab
open Go.RowKit
set_option linter.unusedVariables false
theorem hb_nextM {wa a b : World} (h : Hid (Below wa.heap.size wa a)) (k : Below a.heap.size a b) : Hid (Below wa.heap.size wa b) := Lib.hid (h.out.trans (k.mono h.out.size))
theorem far2q {X : World} {g h o a b : Nat} {u v : Value} (e : h ≠ g) : ((X.setCell ⟨g, a, none⟩ u).setCell ⟨g, b, none⟩ v).cell? ⟨h, o, none⟩ = X.cell? ⟨h, o, none⟩ := by
  rw [World.cell?_setCell_other _ _ _ _ (by intro c; injection c; omega), World.cell?_setCell_other _ _ _ _ (by intro c; injection c; omega)]
set_option maxHeartbeats 1000000 in
/-- The part of MeansOf. -/
theorem meanPart (ps ws vs : List Int) (v1 v2 : Value) (w W0 : World) (B C b n : Nat) (p : Pay ps ws vs) (hbox : TBox W0 B v1 v2) (hm : MapI W0 b n (pairF (endsT ps) vs (endsT ps).length)) (hc : VBox W0 C (.map (some b)) 85)
    (h : TreeV w w.heap.size (.agg #[v1, v2]) ps ws) (h0 : Below w.heap.size w W0) :
    PartI 146 #[.pointer (some ⟨B, 0, none⟩), .pointer (some ⟨C, 0, none⟩)] ps (valsT ps ws vs) W0 := by
  intro W x hx hl hb
  rw [valsT_at hx, if_pos hl]
  obtain ⟨x0, x1⟩ := (hbox.below hb hbox.lt).cells
  have y0 := (hc.below hb hc.lt).cell
  have HM := hm.below hb hm.lt
  have hn24 := p.good.n24
  have RUN : ∀ k, (Instr.lookup 85 (.map (some b)) (.int .i64 (x : Int)) false).run Try.prog (W.drewN k) = .ok (.int .i64 (vs.getD (rankL ps x) 0)) (W.drewN k) := fun k => by
    have := mapI_run (HM.drewN k) (z := (x : Int)) (inI64_nat (by omega))
    rwa [p.look hx hl] at this
  obtain ⟨_, _, e, _, ⟨p2, c2, e2, _, m2, _, i2⟩⟩ := h
  obtain ⟨_, rfl⟩ : v1 = v1 ∧ v2 = .slice p2 ws.length c2 := by simp at e; exact ⟨rfl, by rw [e.2, e2]⟩
  clear e e2
  obtain ⟨bb, off, rfl, hb2, hc2⟩ := IntsAt.get i2 (i := x) (by rw [p.good.nw]; exact hx)
  have hb3 := h0.trans (hb.mono h0.size)
  have hcw : W.cell? ⟨bb, off + x, none⟩ = some (.int .i64 (ws.getD x 0)) := by rw [hb3.cell (p := ⟨bb, off + x, none⟩) hb2, hc2]
  have i0 : (0 : Int) ≤ (x : Int) := by omega
  have i1 : (x : Int) < (ws.length : Int) := by rw [p.good.nw]; omega
  have AB := natAbs_mul_le (x := ws.getD x 0) (y := vs.getD (rankL ps x) 0) (a := 20) (b := 999) (by have := p.good.w_bd hx; omega) (p.abs _)
  unfold maxLen at m2
  generalize ws.getD x 0 = z at *
  generalize vs.getD (rankL ps x) 0 = y at *
  clear hc2 i2 hb hb3 h0 hbox hl hx HM hm hc p
  have WR : IntKind.i64.wrap (z * y) = z * y := IntWalk.i64_in _ (by omega)
  clear AB
  show Calls _ _ #[.int .i64 x, .pointer (some ⟨B, 0, none⟩), .pointer (some ⟨C, 0, none⟩)] _ _
  go_enter Try.func146, Try.ntmps146
  go_wp2_with fail
  go_quiet (fail)
  go_wp2_with fail
  go_ret
  exact ⟨rfl, below_drewN (Below.refl _ _) _⟩
set_option maxRecDepth 100000 in
set_option maxHeartbeats 8000000 in
theorem meansI (ps ws vs : List Int) (v u : Value) (w : World) (hl9 : vs.length ≤ 1048576) (h : TreeV w w.heap.size v ps ws) (hu : IntsV w w.heap.size u vs) :
    Calls Try.prog 73 #[v, u] w (NewQB (meanLen ps ws vs) (meanL ps ws vs) (payB ps ws vs) w) := by
  have TV := Lib.hid h
  have TVB := Lib.hid (fun w' (hb : Below w.heap.size w w') => h.boxed hb)
  have EA := Lib.hid (fun w' (hb : Below w.heap.size w w') => paysI ps ws vs v u w' hl9 (h.boxed hb) ((hu.below hb).more hb.size))
  have SU := Lib.hid (fun (g : Good ps ws) w' (hb : Below w.heap.size w w') => sumsI ps ws v w' (h.boxed hb))
  obtain ⟨p1, c1, p2, c2, rfl⟩ := h.shape
  obtain ⟨qa, da, rfl, _⟩ := hu
  clear h
  have B1 := (Below.refl w.heap.size w).alloc (Nat.le_refl _) (.cells #[.slice p1 ps.length c1, .slice p2 ws.length c2] 28)
  have K0 := alloc_heap w (.cells #[.slice p1 ps.length c1, .slice p2 ws.length c2] 28)
  obtain ⟨wa, hwa⟩ : ∃ wa, wa = w.alloc (.cells #[.slice p1 ps.length c1, .slice p2 ws.length c2] 28) := ⟨_, rfl⟩
  rw [← hwa] at B1 K0
  have T1 := Lib.hid (show TBox wa w.heap.size (.slice p1 ps.length c1) (.slice p2 ws.length c2) from K0)
  have HBA := Lib.hid B1
  clear K0 B1
  obtain ⟨x0, x1⟩ := T1.out.cells
  have hmf : ∀ (fn : Fn) (first cap : Array Value) (w : World), (Instr.makeFunc fn first cap).run Try.prog w = .ok (.func fn first cap) w := fun _ _ _ _ => rfl
  go_enter Try.func73, Try.ntmps73
  go_wp2_with fail
  rw [← hwa]
  clear hwa
  refine (EA.out _ HBA.out).mono ?_
  rintro e w1 ⟨b1, hA⟩
  have HB1' := Lib.hid (HBA.out.trans (b1.mono HBA.out.size))
  have T2' := Lib.hid (T1.out.below b1 T1.out.lt)
  clear b1 x0 x1 T1
  rcases hA with ⟨hevA, Ma, na, rfl, hMa, hmapA⟩ | ⟨hevA, rfl⟩
  · have HMA' := Lib.hid hmapA
    have VA := Lib.hid hevA
    have PA := Lib.hid (payB_iff.1 VA.out)
    have ML : Hid (meanLen ps ws vs = ps.length) := Lib.hid (by unfold meanLen; rw [if_pos VA.out])
    have MS : Hid (meanL ps ws vs = prL (meanN ps ws vs) (meanD ps ws vs) ps.length) := Lib.hid (by unfold meanL; rw [if_pos VA.out])
    clear hMa hmapA hevA
    obtain ⟨wb, hwb⟩ : ∃ wb, wb = w1.alloc (.cells #[.map (some Ma)] 85) := ⟨_, rfl⟩
    have bA : Below w1.heap.size w1 wb := by rw [hwb]; exact (Below.refl _ _).alloc (Nat.le_refl _) _
    have HV1 := Lib.hid (show VBox wb w1.heap.size (.map (some Ma)) 85 by rw [hwb]; exact alloc_heap _ _)
    have HB1 := Lib.hid (HB1'.out.trans (bA.mono HB1'.out.size))
    have T2 := Lib.hid (T2'.out.below bA T2'.out.lt)
    have HMA := Lib.hid (HMA'.out.next bA)
    clear bA HMA' T2'
    obtain ⟨x0, x1⟩ := T2.out.cells
    rw [hwb] at x0 x1
    have gd := PA.out.good
    have hn24 := gd.n24
    have hn1 := gd.n1
    have SU2 := Lib.hid (SU.out gd)
    have GT := Lib.hid ((goodT_iff ps ws).2 gd)
    rw [show goodT ps ws = true from GT.out, show ifGood ps ws (sumsT ps ws) = sumsT ps ws by unfold ifGood; rw [GT.out]; rfl] at SU2
    clear SU GT gd
    go_wp2_with fail
    rw [← hwb]
    obtain ⟨C, hC⟩ : ∃ C, C = w1.heap.size := ⟨_, rfl⟩
    rw [← hC] at HV1 ⊢
    clear hwb x0 x1 hC
    have SL : Hid ((sumsT ps ws).length = ps.length) := Lib.hid (sumsT_len PA.out.good.nw)
    have PL : Hid ((prodT ps ws vs).length = ps.length) := Lib.hid (prodT_len ps ws vs)
    refine (SU2.out _ HB1.out).mono ?_
    rintro e w2 ⟨us, rfl, o2, b2⟩
    obtain ⟨gs, cs, rfl, _, hgs⟩ := o2.shape (by have := SL.out; omega)
    have HB2 := Lib.hid (HB1.out.trans (b2.mono HB1.out.size))
    have T3 := Lib.hid (T2.out.below b2 T2.out.lt)
    have HMB := Lib.hid (HMA.out.next b2)
    have HV2 := Lib.hid (HV1.out.next b2)
    have DS := Lib.hid (fun j (hj : j < ps.length) => o2.cellGet (j := j) (by have := SL.out; omega))
    have HGS := Lib.hid hgs
    rw [SL.out]
    clear b2 o2 hgs T2 HMA HV1 SU2
    obtain ⟨x0, x1⟩ := T3.out.cells
    have P := Lib.hid (sumUpI ps ws (valsT ps ws vs) _ 146 #[.pointer (some ⟨w.heap.size, 0, none⟩), .pointer (some ⟨C, 0, none⟩)] w2 (enters_of Try.func146 (by kernel_rfl) rfl) PA.out.good (TVB.out w2 HB2.out) (valsT_len _ _ _) (fun y hy hl => by rw [valsT_at hy, if_neg (by rw [hl]; simp)]) (by
      have h3 := valsT_sum (vs := vs) PA.out.good 999 PA.out.abs
      have h4 : ps.length * (20 * 999) ≤ 24 * (20 * 999) := Nat.mul_le_mul_right _ PA.out.good.n24
      omega) (meanPart ps ws vs _ _ w w2 _ _ _ _ PA.out T3.out HMB.out HV2.out TV.out HB2.out))
    have PE : Hid (upL ps (valsT ps ws vs) (ps.length - 1) = prodT ps ws vs) := Lib.hid rfl
    rw [PE.out] at P
    go_wp2_with fail
    refine P.out.mono ?_
    rintro e w3 ⟨up, rfl, o3, b3⟩
    obtain ⟨gp, cp, rfl, _, hgp⟩ := o3.shape (by have := PL.out; omega)
    have HB3 := Lib.hid (HB2.out.trans (b3.mono HB2.out.size))
    have DP := Lib.hid (fun j (hj : j < ps.length) => o3.cellGet (j := j) (by have := PL.out; omega))
    have DS3 : Hid (∀ j, j < ps.length → w3.cell? ⟨gs, j, none⟩ = some (.int .i64 ((sumsT ps ws).getD j 0))) := Lib.hid (fun j hj => by rw [b3.cell (p := ⟨gs, j, none⟩) HGS.out]; exact DS.out j hj)
    have HGP := Lib.hid hgp
    have HGS3 : Hid (gs < w3.heap.size) := Lib.hid (Nat.lt_of_lt_of_le HGS.out b3.size)
    rw [PL.out]
    clear b3 o3 hgp T3 HMB HV2 x0 x1 P DS HGS PE TV TVB
    obtain ⟨i0, hif, hz0, hz1, hz2⟩ := info_parts pairInfo
    have c1' : i0.bytes * ps.length ≤ 281474976710656 := by rw [hz2]; omega
    have c2' : ps.length ≤ maxLen := by unfold maxLen; omega
    go_wp2_with (at_make; refine wpList_make_full _ rfl _ _ 54 rfl w3.heap.size 34 i0 (.agg #[.int .i64 0, .int .i64 0]) 2 Try.underlying54 hif hz0 hz1 .i64 .i64 _ _ ps.length rfl rfl rfl rfl c1' c2' (Nat.le_refl _) ?_; intro w4 hown4 hgr4)
    have OM := Lib.hid (OwnQ.made hown4)
    rw [← halfQ_zero (meanN ps ws vs) (meanD ps ws vs)] at OM
    have b4 : Below w3.heap.size w3 w4 := (Below.refl _ _).grown hgr4 (Nat.le_refl _) (by simp)
    have HB4 := Lib.hid (HB3.out.trans (b4.mono HB3.out.size))
    have DP4 : Hid (∀ j, j < ps.length → w4.cell? ⟨gp, j, none⟩ = some (.int .i64 ((prodT ps ws vs).getD j 0))) := Lib.hid (fun j hj => by rw [b4.cell (p := ⟨gp, j, none⟩) HGP.out]; exact DP.out j hj)
    have DS4 : Hid (∀ j, j < ps.length → w4.cell? ⟨gs, j, none⟩ = some (.int .i64 ((sumsT ps ws).getD j 0))) := Lib.hid (fun j hj => by rw [b4.cell (p := ⟨gs, j, none⟩) HGS3.out]; exact DS3.out j hj)
    obtain ⟨G, hG⟩ : ∃ G, G = w3.heap.size := ⟨_, rfl⟩
    have NP : Hid (gp ≠ G ∧ gs ≠ G ∧ w.heap.size ≤ G) := Lib.hid (by have := HGP.out; have := HGS3.out; have := HB3.out.size; omega)
    have SZ4 : Hid (gp < w4.heap.size ∧ gs < w4.heap.size ∧ G < w4.heap.size) := Lib.hid (by have := HGP.out; have := HGS3.out; have := (hown4.lt w3.heap.size rfl).2; omega)
    rw [← hG] at OM ⊢
    have BD := Lib.hid (fun x (hx : x < ps.length) => mean_bd PA.out hx)
    have RC : Hid (∀ (x : Nat) (w' : World), x < ps.length → Calls Try.prog 113 #[.int .i64 ((prodT ps ws vs).getD x 0), .int .i64 ((sumsT ps ws).getD x 0)] w' (Gives (.tuple #[.agg #[.int .i64 (meanN ps ws vs x), .int .i64 (meanD ps ws vs x)], .bool true]) w')) := Lib.hid (fun x w' hx => by
      have h1 := prod_bd PA.out hx
      have h2 := sums_pos PA.out.good x hx
      have h3 := (sumsT_bd PA.out.good x hx).2
      have h4 := reduceI_pos ((prodT ps ws vs).getD x 0) ((sumsT ps ws).getD x 0) w' (by omega) (by omega)
      have h5 := small_inB (a := (prodT ps ws vs).getD x 0) (b := (sumsT ps ws).getD x 0) (by omega) (by omega)
      unfold keptV at h4
      rw [if_pos h5] at h4
      exact h4)
    clear b4 hown4 hgr4 DP DS3 HGP HGS3 hz0 hz1 hz2 hif c1' c2' hG
    have HST := Lib.hid (fun k (hk : k < ps.length) => halfQ_set (meanN ps ws vs) (meanD ps ws vs) hk)
    have ALL := Lib.hid (fun k (hk : ps.length ≤ k) => halfQ_all (meanN ps ws vs) (meanD ps ws vs) hk)
    have HLN := Lib.hid (fun k (hk : k ≤ ps.length) => halfQ_len (meanN ps ws vs) (meanD ps ws vs) hk)
    go_wp2_with fail
    go_loopg [35] ps.length (fun gg i wr => ∃ k : Nat, k ≤ ps.length ∧ ps.length - k ≤ gg ∧ i = .int .i64 k ∧ Hid (OwnQ wr G wr.heap.size (.slice (some ⟨G, 0, none⟩) ps.length ps.length) ps.length (halfQ (meanN ps ws vs) (meanD ps ws vs) ps.length k)) ∧ Hid (∀ j, j < ps.length → wr.cell? ⟨gp, j, none⟩ = some (.int .i64 ((prodT ps ws vs).getD j 0))) ∧ Hid (∀ j, j < ps.length → wr.cell? ⟨gs, j, none⟩ = some (.int .i64 ((sumsT ps ws).getD j 0))) ∧ Hid (gp < wr.heap.size ∧ gs < wr.heap.size ∧ G < wr.heap.size) ∧ Hid (Below w.heap.size w wr))
    case atStart => exact ⟨0, Nat.zero_le _, by omega, rfl, OM, DP4, DS4, SZ4, HB4⟩
    case round =>
      obtain ⟨k, hk, hgg, rfl, HO, HP, HS, HZ, HB⟩ := hrel
      clear OM DP4 DS4 SZ4 HB4
      by_cases hlt : k < ps.length
      · have hp := HP.out k hlt
        have hs := HS.out k hlt
        have RK := Lib.hid (fun w' => RC.out k w' hlt)
        have ST := Lib.hid (HST.out k hlt)
        have bd := BD.out k hlt
        obtain ⟨pk, hpk⟩ : ∃ z, z = (prodT ps ws vs).getD k 0 := ⟨_, rfl⟩
        obtain ⟨sk, hsk⟩ : ∃ z, z = (sumsT ps ws).getD k 0 := ⟨_, rfl⟩
        rw [← hpk] at hp RK
        rw [← hsk] at hs RK
        obtain ⟨mn, hmn⟩ : ∃ z, z = meanN ps ws vs k := ⟨_, rfl⟩
        obtain ⟨md, hmd⟩ : ∃ z, z = meanD ps ws vs k := ⟨_, rfl⟩
        rw [← hmn] at RK ST bd
        rw [← hmd] at RK ST bd
        have IN : Hid (InI64 mn ∧ InI64 md) := Lib.hid (by unfold InI64; omega)
        have i0 : (0 : Int) ≤ (k : Int) := by omega
        have i1 : (k : Int) < (ps.length : Int) := by omega
        have HD : Hid (Below wr.heap.size wr wr.drew) := Lib.hid (below_drew (Below.refl _ _))
        have KC : Hid (∀ w', Hid (Below wr.heap.size wr w') → w'.cell? ⟨gp, k, none⟩ = some (.int .i64 pk) ∧ w'.cell? ⟨gs, k, none⟩ = some (.int .i64 sk)) := Lib.hid (fun w' hb => ⟨(hb.out.cell (p := ⟨gp, k, none⟩) HZ.out.1).trans hp, (hb.out.cell (p := ⟨gs, k, none⟩) HZ.out.2.1).trans hs⟩)
        obtain ⟨np1, np2, np3⟩ := NP.out
        clear hpk hsk hmn hmd hp hs bd
        go_wp2_with fail
        go_region_held3 (fun w' => w'.cell? ⟨gp, k, none⟩ = some (.int .i64 pk) ∧ w'.cell? ⟨gs, k, none⟩ = some (.int .i64 sk))
          (first | exact KC.out _ HD | exact KC.out _ (by assumption) | exact ⟨(far2q np1).trans (KC.out _ (by assumption)).1, (far2q np2).trans (KC.out _ (by assumption)).2⟩ | go_keep)
          (first
            | (go_at_call 113; (with_reducible refine (RK.out _).mono ?_); rintro e w9 ⟨rfl, b9⟩; (have HE9 := hb_nextM (wa := wr) (by first | exact HD | assumption) b9); (have HO9 := Lib.hid (HO.out.below HE9.out)); (have t0 := HO9.out.cellGet (j := k * 2) (by omega)); (have t1 := HO9.out.cellGet (j := k * 2 + 1) (by omega)); (have f0 := HO9.out.row.frozenAt (k * 2)); (have f1 := HO9.out.row.frozenAt (k * 2 + 1)); clear b9))
        all_goals
          have ON := Lib.hid ((HO9.out.set2 k IN.out.1 IN.out.2).wide (hi' := w9.heap.size) (by have := HE9.out.size; omega) (by simp))
          rw [ST.out] at ON
          have PN : Hid (∀ j, j < ps.length → ((w9.setCell ⟨G, k * 2, none⟩ (.int .i64 mn)).setCell ⟨G, k * 2 + 1, none⟩ (.int .i64 md)).cell? ⟨gp, j, none⟩ = some (.int .i64 ((prodT ps ws vs).getD j 0))) := Lib.hid (fun j hj => by rw [far2q np1, HE9.out.cell (p := ⟨gp, j, none⟩) HZ.out.1]; exact HP.out j hj)
          have SN : Hid (∀ j, j < ps.length → ((w9.setCell ⟨G, k * 2, none⟩ (.int .i64 mn)).setCell ⟨G, k * 2 + 1, none⟩ (.int .i64 md)).cell? ⟨gs, j, none⟩ = some (.int .i64 ((sumsT ps ws).getD j 0))) := Lib.hid (fun j hj => by rw [far2q np2, HE9.out.cell (p := ⟨gs, j, none⟩) HZ.out.2.1]; exact HS.out j hj)
          have ZN : Hid (gp < w9.heap.size ∧ gs < w9.heap.size ∧ G < w9.heap.size) := Lib.hid (by have := HZ.out; have := HE9.out.size; omega)
          have BN := Lib.hid (((HB.out.trans (HE9.out.mono HB.out.size)).setCell (p := ⟨G, k * 2, none⟩) np3 (.int .i64 mn)).setCell (p := ⟨G, k * 2 + 1, none⟩) np3 (.int .i64 md))
          clear HO HP HS HZ HB HO9 HE9 t0 t1 f0 f1 HD KC RK
          go_wp2_with fail
          go_roundg (ps.length - (k + 1))
          case rel => exact ⟨k + 1, by omega, by omega, by go_num, Lib.hid (by simpa using ON.out), PN, SN, Lib.hid (by simpa using ZN.out), BN⟩
          case measure => omega
      · rw [ALL.out k (by omega), show k = ps.length by omega] at HO
        have FIN : Hid (NewQB (meanLen ps ws vs) (meanL ps ws vs) (payB ps ws vs) w (.returned (.tuple #[.slice (some ⟨G, 0, none⟩) ps.length ps.length, .bool true])) wr) := Lib.hid (by
          rw [ML.out, MS.out, VA.out]
          exact ⟨_, rfl, HO.out.low NP.out.2.2, HB.out⟩)
        go_wp2
        go_ret2
        exact FIN.out
  · have ML : Hid (meanLen ps ws vs = 0) := Lib.hid (by unfold meanLen; rw [hevA]; rfl)
    have MS : Hid (meanL ps ws vs = []) := Lib.hid (by unfold meanL; rw [hevA]; rfl)
    have VA := Lib.hid hevA
    clear hevA
    have HB9 := Lib.hid (HB1'.out.alloc HB1'.out.size (.cells #[.map none] 85))
    have FIN : Hid (NewQB (meanLen ps ws vs) (meanL ps ws vs) (payB ps ws vs) w (.returned (.tuple #[.slice (some ⟨w1.heap.size + 1, 0, none⟩) 0 0, .bool false])) ((w1.alloc (.cells #[.map none] 85)).alloc (.cells #[] 34))) := Lib.hid (by
      rw [ML.out, MS.out, VA.out]
      exact newQ_empty HB9.out (by simp))
    go_wp2_with fail
    go_ret2
    exact FIN.out
end Go.Proofs.Ytagljebfbacdhab
