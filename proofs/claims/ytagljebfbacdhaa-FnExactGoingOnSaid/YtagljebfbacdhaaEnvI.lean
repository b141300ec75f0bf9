/- EnvelopeOf in the program. -/
import Derived.Test.YtagljebfbacdhaaLeaI
import Derived.Test.YtagljebfbacdhaaPrsF
import Derived.Test.YtagljebfbacdhaaKidSum
import Derived.Deep.LoopGhost
namespace Go.Proofs.Ytagljebfbacdhaa
open Go.RowKit
set_option linter.unusedVariables false
def capW (ps ws zs : List Int) : List Int := capT ps (ownT (sumsT ps ws) zs ps.length)
def envN (ps ws zs : List Int) (x : Nat) : Int := cutN ((capW ps ws zs).getD x 0) ((sumsT ps ws).getD x 0)
def envD (ps ws zs : List Int) (x : Nat) : Int := cutD ((capW ps ws zs).getD x 0) ((sumsT ps ws).getD x 0)
theorem capW_bd {ps ws zs : List Int} (p : Proc ps ws zs) {x : Nat} (hx : x < ps.length) : -479520 ≤ (capW ps ws zs).getD x 0 ∧ (capW ps ws zs).getD x 0 ≤ 479520 := cap_small p 24 hx
theorem capW_len (ps ws zs : List Int) : (capW ps ws zs).length = ps.length := capN_len (ownT_len _ _ _) 24
theorem env_bd {ps ws zs : List Int} (p : Proc ps ws zs) {x : Nat} (hx : x < ps.length) : (-479520 ≤ envN ps ws zs x ∧ envN ps ws zs x ≤ 479520) ∧ 0 < envD ps ws zs x ∧ envD ps ws zs x ≤ 480 := by
  have h1 := capW_bd p hx
  have h2 := sums_pos p.good x hx
  have h3 := (sumsT_bd p.good x hx).2
  have h4 := abs_cutN (a := (capW ps ws zs).getD x 0) (b := (sumsT ps ws).getD x 0) 479520 (by omega) (by omega)
  have h5 := cutD_le (a := (capW ps ws zs).getD x 0) h2
  have h6 := cutD_pos (a := (capW ps ws zs).getD x 0) h2
  unfold envN envD
  omega
def envLen (ps ws zs : List Int) : Nat := if procB ps ws zs = true then ps.length else 0
def envL (ps ws zs : List Int) : List Int := if procB ps ws zs = true then prL (envN ps ws zs) (envD ps ws zs) ps.length else []
theorem envLen_le (ps ws zs : List Int) : envLen ps ws zs ≤ 1048576 := by
  unfold envLen
  split
  · rename_i h
    have := (procB_iff.1 h).good.n24
    omega
  · omega
set_option maxRecDepth 100000 in
set_option maxHeartbeats 4000000 in
theorem worthI (ps ws zs : List Int) (g : Value) (x : Nat) (c : Int) (w : World) (pr : Proc ps ws zs) (hx : x < ps.length) (hc : -1000000 ≤ c ∧ c ≤ 1000000) (h : Game w w.heap.size g ps ws zs) :
    Calls Try.prog 63 #[g, .int .i64 x, .int .i64 c] w (Gives (.agg #[.int .i64 (cutN c ((sumsT ps ws).getD x 0)), .int .i64 (cutD c ((sumsT ps ws).getD x 0))]) w) := by
  have sl := sumsT_len pr.good.nw
  have sp := sums_pos pr.good x hx
  have sb := (sumsT_bd pr.good x hx).2
  have RC : Hid (∀ w', Calls Try.prog 93 #[.int .i64 c, .int .i64 ((sumsT ps ws).getD x 0)] w' (Gives (.tuple #[.agg #[.int .i64 (cutN c ((sumsT ps ws).getD x 0)), .int .i64 (cutD c ((sumsT ps ws).getD x 0))], .bool true]) w')) := Lib.hid (fun w' => by rw [← kept_small hc (by omega)]; exact reduceI_pos _ _ w' (by omega) (by omega))
  obtain ⟨v1, v2, us, u, rfl, h1, h2, h3⟩ := h
  obtain ⟨p1, c1, p2, c2, hs⟩ := h1.shape
  injection hs with hs
  injection hs with hs
  injection hs with hs1 hs
  injection hs with hs2 hs
  subst hs1; subst hs2
  clear hs
  obtain ⟨p3, c3, rfl, _, _, _, j3⟩ := h2
  obtain ⟨p4, c4, rfl, _⟩ := h3
  obtain ⟨b3, o3, hq3, hb3, hc3⟩ := j3.get (i := x) (by omega)
  subst hq3
  obtain ⟨sn, hsn⟩ : ∃ sn, sn = (sumsT ps ws).length := ⟨_, rfl⟩
  have i0 : (0 : Int) ≤ (x : Int) := by omega
  have i1 : (x : Int) < (sn : Int) := by omega
  rw [← hsn]
  have B1 := ((Below.refl w.heap.size w).alloc (Nat.le_refl _) (.cells #[.slice p1 ps.length c1, .slice p2 ws.length c2, .slice (some ⟨b3, o3, none⟩) sn c3, .slice p4 zs.length c4] 60)).alloc (by simp) (.cells #[.int .i64 0, .int .i64 0] 34)
  have K0 := alloc_two w (.cells #[.slice p1 ps.length c1, .slice p2 ws.length c2, .slice (some ⟨b3, o3, none⟩) sn c3, .slice p4 zs.length c4] 60) (.cells #[.int .i64 0, .int .i64 0] 34)
  obtain ⟨wa, hwa⟩ : ∃ wa, wa = (w.alloc (.cells #[.slice p1 ps.length c1, .slice p2 ws.length c2, .slice (some ⟨b3, o3, none⟩) sn c3, .slice p4 zs.length c4] 60)).alloc (.cells #[.int .i64 0, .int .i64 0] 34) := ⟨_, rfl⟩
  rw [← hwa] at B1 K0
  have R1 := Lib.hid (show PBox wa (w.heap.size + 1) 0 0 from K0.2)
  obtain ⟨k0, k1, k2, k3⟩ := (show GBox wa w.heap.size (.slice p1 ps.length c1) (.slice p2 ws.length c2) (.slice (some ⟨b3, o3, none⟩) sn c3) (.slice p4 zs.length c4) from K0.1).cells
  have hk3 := (B1.cell (p := ⟨b3, o3 + x, none⟩) hb3).trans hc3
  have HBA := Lib.hid B1
  obtain ⟨s, hss⟩ : ∃ s, s = (sumsT ps ws).getD x 0 := ⟨_, rfl⟩
  rw [← hss] at hk3 hc3 RC ⊢
  obtain ⟨cn, hcn⟩ : ∃ cn, cn = cutN c s := ⟨_, rfl⟩
  obtain ⟨cd, hcd⟩ : ∃ cd, cd = cutD c s := ⟨_, rfl⟩
  rw [← hcn, ← hcd] at RC ⊢
  clear K0 B1 hk3 hss hcn hcd j3 h1 hsn sl sp sb pr
  go_enter Try.func63, Try.ntmps63
  go_wp2_with fail
  rw [← hwa]
  clear hwa k0 k1 k2 k3
  refine (RC.out _).mono ?_
  rintro e w1 ⟨rfl, b1⟩
  have HB1 := HBA.out.trans (b1.mono HBA.out.size)
  have HR1 := R1.out.below b1 R1.out.lt
  have HB2 := Lib.hid (HB1.alloc HB1.size (.cells #[.int .i64 cn, .int .i64 cd] 34))
  have L1 := show PBox (w1.alloc (.cells #[.int .i64 cn, .int .i64 cd] 34)) w1.heap.size cn cd from alloc_heap w1 _
  have HR2 := HR1.below ((Below.refl w1.heap.size w1).alloc (Nat.le_refl _) (.cells #[.int .i64 cn, .int .i64 cd] 34)) HR1.lt
  obtain ⟨l0, l1, _, _⟩ := L1.cells
  obtain ⟨c0, c1', f0, f1⟩ := HR2.cells
  clear b1 HB1 HR1 L1 HR2 hc3
  go_wp2_with fail
  refine bodyPost_ret (v := .agg #[.int .i64 cn, .int .i64 cd]) (by simp [results, Try.results63, go_sem, *]) rfl ⟨rfl, ?_⟩
  exact (HB2.out.setCell (p := ⟨w.heap.size + 1, 0, none⟩) (by simp) _).setCell (p := ⟨w.heap.size + 1, 1, none⟩) (by simp) _
set_option maxRecDepth 100000 in
set_option maxHeartbeats 8000000 in
theorem envI (ps ws zs : List Int) (v u : Value) (w : World) (hn1 : zs.length ≤ 1048576) (h : TreeV w w.heap.size v ps ws) (hu : IntsV w w.heap.size u zs) :
    Calls Try.prog 26 #[v, u] w (NewQB (envLen ps ws zs) (envL ps ws zs) (procB ps ws zs) w) := by
  have GC := Lib.hid (fun w' (hb : Below w.heap.size w w') => gameI ps ws zs v u w' hn1 (h.boxed hb) ((hu.below hb).more hb.size))
  obtain ⟨p1, c1, p2, c2, rfl⟩ := h.shape
  obtain ⟨q, d, rfl, _⟩ := hu
  clear h
  have B1 := (Below.refl w.heap.size w).alloc (Nat.le_refl _) (.cells #[.slice p1 ps.length c1, .slice p2 ws.length c2] 28)
  have T1 := Lib.hid (show TBox (w.alloc (.cells #[.slice p1 ps.length c1, .slice p2 ws.length c2] 28)) w.heap.size (.slice p1 ps.length c1) (.slice p2 ws.length c2) from alloc_heap w _)
  obtain ⟨x0, x1⟩ := T1.out.cells
  obtain ⟨wa, hwa⟩ : ∃ wa, wa = w.alloc (.cells #[.slice p1 ps.length c1, .slice p2 ws.length c2] 28) := ⟨_, rfl⟩
  rw [← hwa] at B1 T1
  have HBA := Lib.hid B1
  clear B1
  have GC2 := Lib.hid (GC.out wa HBA.out)
  cases hp : procB ps ws zs
  · have ML : Hid (envLen ps ws zs = 0) := Lib.hid (by unfold envLen; rw [hp]; rfl)
    have ME : Hid (envL ps ws zs = []) := Lib.hid (by unfold envL; rw [hp]; rfl)
    rw [ML.out, ME.out]
    have G3 : Hid (Calls Try.prog 61 #[.agg #[.slice p1 ps.length c1, .slice p2 ws.length c2], .slice q zs.length d] wa (Gives (.tuple #[noGame, .bool false]) wa)) := Lib.hid (GC2.out.mono (fun e w1 hh => by
      obtain ⟨hb, ⟨_, h2⟩ | ⟨h1, _⟩⟩ := hh
      · exact ⟨h2, hb⟩
      · rw [hp] at h1; cases h1))
    clear hp GC GC2
    unfold noGame at G3
    go_enter Try.func26, Try.ntmps26
    go_wp2_with fail
    rw [← hwa]
    clear hwa x0 x1
    refine G3.out.mono ?_
    rintro e w1 ⟨rfl, b1⟩
    have HB1 := HBA.out.trans (b1.mono HBA.out.size)
    have HB2 := Lib.hid (HB1.alloc HB1.size (.cells #[.slice none 0 0, .slice none 0 0, .slice none 0 0, .slice none 0 0] 60))
    clear b1 HB1
    go_wp2_with fail
    go_ret2
    exact newQ_empty HB2.out (by simp)
  · have ML : Hid (envLen ps ws zs = ps.length) := Lib.hid (by unfold envLen; rw [if_pos hp])
    have ME : Hid (envL ps ws zs = prL (envN ps ws zs) (envD ps ws zs) ps.length) := Lib.hid (by unfold envL; rw [if_pos hp])
    have PR := Lib.hid (procB_iff.1 hp)
    have G3 : Hid (Calls Try.prog 61 #[.agg #[.slice p1 ps.length c1, .slice p2 ws.length c2], .slice q zs.length d] wa (fun e w' => ∃ g, e = .returned (.tuple #[g, .bool true]) ∧ Game w' w'.heap.size g ps ws zs ∧ Below wa.heap.size wa w')) := Lib.hid (GC2.out.mono (fun e w1 hh => by
      obtain ⟨hb, ⟨h1, _⟩ | ⟨_, g, h2, h3⟩⟩ := hh
      · rw [hp] at h1; cases h1
      · exact ⟨g, h2, h3, hb⟩))
    have LE := Lib.hid (fun g w1 (hg : Game w1 w1.heap.size g ps ws zs) w2 (hb : Below w1.heap.size w1 w2) => show Calls Try.prog 62 #[g] w2 (NewInts (capW ps ws zs) w2) from leastI ps ws zs g w2 PR.out (hg.boxed hb))
    have WO := Lib.hid (fun g w1 (hg : Game w1 w1.heap.size g ps ws zs) w2 (hb : Below w1.heap.size w1 w2) (x : Nat) (hx : x < ps.length) => show Calls Try.prog 63 #[g, .int .i64 x, .int .i64 ((capW ps ws zs).getD x 0)] w2 (Gives (.agg #[.int .i64 (envN ps ws zs x), .int .i64 (envD ps ws zs x)]) w2) from worthI ps ws zs g x _ w2 PR.out hx (by have := capW_bd PR.out hx; omega) (hg.boxed hb))
    have CL := Lib.hid (capW_len ps ws zs)
    have BD := Lib.hid (fun x (hx : x < ps.length) => env_bd PR.out (x := x) hx)
    have hn24 := PR.out.good.n24
    have hn0 := PR.out.good.n1
    have hlz := PR.out.len
    rw [hlz] at G3 ⊢
    clear hp GC GC2 hlz
    obtain ⟨C, hC⟩ : ∃ C, C = capW ps ws zs := ⟨_, rfl⟩
    rw [← hC] at LE WO CL
    obtain ⟨N, hN⟩ : ∃ N, N = envN ps ws zs := ⟨_, rfl⟩
    obtain ⟨D, hD⟩ : ∃ D, D = envD ps ws zs := ⟨_, rfl⟩
    rw [← hN, ← hD] at ME
    rw [← hN] at WO BD
    rw [← hD] at WO BD
    clear hC hN hD
    have HST := Lib.hid (fun k (hk : k < ps.length) => halfQ_set N D hk)
    have ALL := Lib.hid (fun k (hk : ps.length ≤ k) => halfQ_all N D hk)
    have HLN := Lib.hid (fun k (hk : k ≤ ps.length) => halfQ_len N D hk)
    go_enter Try.func26, Try.ntmps26
    go_wp2_with fail
    rw [← hwa]
    clear hwa x0 x1
    refine G3.out.mono ?_
    rintro e w1 ⟨g, rfl, hg, b1⟩
    have HB1 := HBA.out.trans (b1.mono HBA.out.size)
    obtain ⟨P1, C1, P2, C2, P3, N3, C3, P4, C4, rfl⟩ := hg.parts
    obtain ⟨zn, hzn⟩ : ∃ zn, zn = zs.length := ⟨_, rfl⟩
    rw [← hzn] at hg ⊢
    have HG := Lib.hid hg
    have HB2 := Lib.hid (HB1.alloc HB1.size (.cells #[.slice P1 ps.length C1, .slice P2 ws.length C2, .slice P3 N3 C3, .slice P4 zn C4] 60))
    have BW := Lib.hid ((Below.refl w1.heap.size w1).alloc (Nat.le_refl _) (.cells #[.slice P1 ps.length C1, .slice P2 ws.length C2, .slice P3 N3 C3, .slice P4 zn C4] 60))
    have R1 := Lib.hid (show GBox (w1.alloc (.cells #[.slice P1 ps.length C1, .slice P2 ws.length C2, .slice P3 N3 C3, .slice P4 zn C4] 60)) w1.heap.size (.slice P1 ps.length C1) (.slice P2 ws.length C2) (.slice P3 N3 C3) (.slice P4 zn C4) from alloc_heap w1 _)
    obtain ⟨y0, y1, y2, y3⟩ := R1.out.cells
    clear b1 HB1 hg hzn
    obtain ⟨wb, hwb⟩ : ∃ wb, wb = w1.alloc (.cells #[.slice P1 ps.length C1, .slice P2 ws.length C2, .slice P3 N3 C3, .slice P4 zn C4] 60) := ⟨_, rfl⟩
    have szb : wb.heap.size = w1.heap.size + 1 := by rw [hwb]; simp
    rw [← hwb] at HB2 BW R1
    obtain ⟨i0, hif, hz0, hz1, hz2⟩ := info_parts pairInfo
    have c1' : i0.bytes * ps.length ≤ 281474976710656 := by rw [hz2]; omega
    have c2' : ps.length ≤ maxLen := by unfold maxLen; omega
    go_wp2_with (at_make; refine wpList_make_full _ rfl _ _ 39 rfl (w1.heap.size + 1) 34 i0 (.agg #[.int .i64 0, .int .i64 0]) 2 Try.underlying39 hif hz0 hz1 .i64 .i64 _ _ ps.length rfl rfl rfl rfl c1' c2' (by simp) ?_; intro w4 hown4 hgr4; (rw [← hwb] at hgr4); (have R4' := Lib.hid (R1.out.below ((Below.refl wb.heap.size wb).grown hgr4 (Nat.le_refl _) (by simp)) R1.out.lt)); (obtain ⟨z0, z1, z2, z3⟩ := R4'.out.cells))
    have OM := Lib.hid (OwnQ.made (by simpa using hown4))
    rw [← halfQ_zero N D] at OM
    have b4 : Below wb.heap.size wb w4 := (Below.refl _ _).grown hgr4 (Nat.le_refl _) (by simp)
    have HB4 := Lib.hid (HB2.out.trans (b4.mono HB2.out.size))
    have BW4 := Lib.hid (BW.out.trans (b4.mono BW.out.size))
    have R4 := Lib.hid (R1.out.below b4 R1.out.lt)
    have SZB := Lib.hid szb
    clear y0 y1 y2 y3 z0 z1 z2 z3 R4' b4 hown4 hgr4 c1' c2' hif hz0 hz1 hz2 hwb szb
    refine (LE.out _ w1 HG.out w4 BW4.out).mono ?_
    rintro e w5 ⟨uc, rfl, o5, b5⟩
    obtain ⟨gp, cp, rfl, hp1, hp2⟩ := o5.shape (by have := CL.out; omega)
    have HB5 := Lib.hid (HB4.out.trans (b5.mono HB4.out.size))
    have BW5 := Lib.hid (BW4.out.trans (b5.mono BW4.out.size))
    have R5 := Lib.hid (R4.out.below b5 R4.out.lt)
    have OM5 := Lib.hid ((OM.out.below b5).wide b5.size (Nat.le_refl _))
    have DP := Lib.hid (fun j (hj : j < ps.length) => o5.cellGet (j := j) (by have := CL.out; omega))
    have GP := Lib.hid hp2
    have NP := Lib.hid (show gp ≠ w1.heap.size + 1 from by have := OM.out.lt (w1.heap.size + 1) rfl; omega)
    have WL := Lib.hid (show w.heap.size ≤ w1.heap.size + 1 from by have := HB2.out.size; have := SZB.out; omega)
    obtain ⟨cl, hcl⟩ : ∃ cl, cl = C.length := ⟨_, rfl⟩
    have le1 : cl ≤ ps.length := by have := CL.out; omega
    have le2 : ps.length ≤ cl := by have := CL.out; omega
    rw [← hcl]
    clear b5 o5 hp1 hp2 OM R4 HB4 BW4 hcl
    go_wp2_with fail
    go_loopg [26] ps.length (fun gg i wr => ∃ k : Nat, k ≤ ps.length ∧ ps.length - k ≤ gg ∧ i = .int .i64 k ∧ Hid (OwnQ wr (w1.heap.size + 1) wr.heap.size (.slice (some ⟨w1.heap.size + 1, 0, none⟩) ps.length ps.length) ps.length (halfQ N D ps.length k)) ∧ Hid (∀ j, j < ps.length → wr.cell? ⟨gp, j, none⟩ = some (.int .i64 (C.getD j 0))) ∧ Hid (gp < wr.heap.size) ∧ Hid (GBox wr w1.heap.size (.slice P1 ps.length C1) (.slice P2 ws.length C2) (.slice P3 N3 C3) (.slice P4 zn C4)) ∧ Hid (Below w1.heap.size w1 wr) ∧ Hid (Below w.heap.size w wr))
    case atStart => exact ⟨0, Nat.zero_le _, by omega, rfl, OM5, DP, GP, R5, BW5, HB5⟩
    case round =>
      clear OM5 DP GP R5 BW5 HB5
      obtain ⟨k, hk, hgg, rfl, HO, HP, HGP, HR, HBW, HB⟩ := hrel
      obtain ⟨y0, y1, y2, y3⟩ := HR.out.cells
      by_cases hlt : k < ps.length
      · have hp := HP.out k hlt
        have CW := Lib.hid (WO.out _ w1 HG.out wr HBW.out k hlt)
        have ST := Lib.hid (HST.out k hlt)
        have bd := BD.out k hlt
        obtain ⟨ck, hck⟩ : ∃ z, z = C.getD k 0 := ⟨_, rfl⟩
        obtain ⟨mn, hmn⟩ : ∃ z, z = N k := ⟨_, rfl⟩
        obtain ⟨md, hmd⟩ : ∃ z, z = D k := ⟨_, rfl⟩
        rw [← hck] at hp CW
        rw [← hmn] at CW ST bd
        rw [← hmd] at CW ST bd
        have IN : Hid (InI64 mn ∧ InI64 md) := Lib.hid (by unfold InI64; omega)
        have i0' : (0 : Int) ≤ (k : Int) := by omega
        have i1' : (k : Int) < (ps.length : Int) := by omega
        have i2' : (k : Int) < (cl : Int) := by omega
        clear hck hmn hmd bd
        go_wp2_with fail
        refine CW.out.mono ?_
        rintro e w9 ⟨rfl, b9⟩
        have HO9 := Lib.hid ((HO.out.below b9).wide b9.size (Nat.le_refl _))
        have t0 := HO9.out.cellGet (j := k * 2) (by omega)
        have t1 := HO9.out.cellGet (j := k * 2 + 1) (by omega)
        have f0 := HO9.out.row.frozenAt (k * 2)
        have f1 := HO9.out.row.frozenAt (k * 2 + 1)
        have ON := HO9.out.set2 k IN.out.1 IN.out.2
        rw [ST.out] at ON
        have ON2 := Lib.hid ON
        have P9 : Hid (∀ j, j < ps.length → ((w9.setCell ⟨w1.heap.size + 1, k * 2, none⟩ (.int .i64 mn)).setCell ⟨w1.heap.size + 1, k * 2 + 1, none⟩ (.int .i64 md)).cell? ⟨gp, j, none⟩ = some (.int .i64 (C.getD j 0))) := Lib.hid (fun j hj => by
          rw [World.cell?_setCell_other _ _ _ _ (by intro e; injection e; have := NP.out; omega), World.cell?_setCell_other _ _ _ _ (by intro e; injection e; have := NP.out; omega), b9.cell (p := ⟨gp, j, none⟩) HGP.out]; exact HP.out j hj)
        have G9 : Hid (gp < w9.heap.size) := Lib.hid (Nat.lt_of_lt_of_le HGP.out b9.size)
        have R9 := HR.out.below b9 HR.out.lt
        have RN : Hid (GBox ((w9.setCell ⟨w1.heap.size + 1, k * 2, none⟩ (.int .i64 mn)).setCell ⟨w1.heap.size + 1, k * 2 + 1, none⟩ (.int .i64 md)) w1.heap.size (.slice P1 ps.length C1) (.slice P2 ws.length C2) (.slice P3 N3 C3) (.slice P4 zn C4)) := Lib.hid (by
          unfold GBox at R9 ⊢
          rw [Below.heap_setCell _ _ _ _ (by simp), Below.heap_setCell _ _ _ _ (by simp)]; exact R9)
        have BWN : Hid (Below w1.heap.size w1 ((w9.setCell ⟨w1.heap.size + 1, k * 2, none⟩ (.int .i64 mn)).setCell ⟨w1.heap.size + 1, k * 2 + 1, none⟩ (.int .i64 md))) := Lib.hid (((HBW.out.trans (b9.mono HBW.out.size)).setCell (p := ⟨w1.heap.size + 1, k * 2, none⟩) (by simp) _).setCell (p := ⟨w1.heap.size + 1, k * 2 + 1, none⟩) (by simp) _)
        have BN : Hid (Below w.heap.size w ((w9.setCell ⟨w1.heap.size + 1, k * 2, none⟩ (.int .i64 mn)).setCell ⟨w1.heap.size + 1, k * 2 + 1, none⟩ (.int .i64 md))) := Lib.hid (((HB.out.trans (b9.mono HB.out.size)).setCell (p := ⟨w1.heap.size + 1, k * 2, none⟩) WL.out _).setCell (p := ⟨w1.heap.size + 1, k * 2 + 1, none⟩) WL.out _)
        clear HO HP HGP HR HBW HB HO9 ON R9 b9 y0 y1 y2 y3
        go_wp2_with fail
        go_roundg (ps.length - (k + 1))
        case rel => exact ⟨k + 1, by omega, by omega, by go_num, Lib.hid (by simpa [World.setCell] using ON2.out), P9, Lib.hid (by simpa [World.setCell] using G9.out), RN, BWN, BN⟩
        case measure => omega
      · have i2' : ¬ (k : Int) < (cl : Int) := by omega
        rw [ALL.out k (by omega), show k = ps.length by omega] at HO
        have FIN : Hid (NewQB (envLen ps ws zs) (envL ps ws zs) true w (.returned (.tuple #[.slice (some ⟨w1.heap.size + 1, 0, none⟩) ps.length ps.length, .bool true])) wr) := Lib.hid (by
          rw [ML.out, ME.out]
          exact ⟨_, rfl, HO.out.low WL.out, HB.out⟩)
        go_wp2_with fail
        go_ret2
        exact FIN.out
end Go.Proofs.Ytagljebfbacdhaa
