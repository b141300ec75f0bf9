/- Caps in the model. -/
import Derived.Test.YtfpckfameebdnaaKid4
import Derived.Test.YtfpckfameebdnaaMBt
import Derived.Test.YtfpckfameebdnaaPay4
import Derived.Test.YtfpckfameebdnaaLeaI
namespace Go.Proofs.Ytfpckfameebdnaa
open Go.RowKit
set_option linter.unusedVariables false
theorem OwnV.raiseC {w : World} {lo lo' hi g n c : Nat} {zs : List Int} (h : OwnV w lo hi (.slice (some ⟨g, 0, none⟩) n c) zs) (hg : lo' ≤ g) : OwnV w lo' hi (.slice (some ⟨g, 0, none⟩) n c) zs := by
  refine ⟨⟨h.row.1, ?_⟩, h.lt, h.room, h.in64⟩
  rcases h.row.2 with ⟨h1, _⟩ | ⟨g', cap, cur, h2, _, rest⟩
  · cases h1
  · refine .inr ⟨g', cap, cur, h2, ?_, rest⟩
    injection h2 with h2; injection h2 with h2; injection h2 with h2
    omega
theorem set_same {L : List Int} {x : Nat} (h : x < L.length) : L.set x (L.getD x 0) = L := by
  rw [List.getD_eq_getElem?_getD, List.getElem?_eq_getElem h]
  exact List.set_getElem_self h
/-- What the two rows are behind the first statement. -/
def TwoC (w : World) (ps E : List Int) (p1 p2 : Option Addr) (c1 c2 n2 g1 g2 : Nat) (wx : World) : Prop :=
  OwnV wx (w.heap.size + 1) wx.heap.size (.slice (some ⟨g1, 0, none⟩) ps.length ps.length) (List.replicate ps.length 0) ∧ (∀ j, j < E.length → wx.cell? ⟨g2, j, none⟩ = some (.int .i64 (E.getD j 0))) ∧ g1 ≠ g2 ∧ g2 < wx.heap.size ∧ w.heap.size + 1 ≤ g1 ∧
  TBox wx w.heap.size (.slice p1 ps.length c1) (.slice p2 n2 c2) ∧ Below w.heap.size w wx
theorem most_max (a b : Int) : (if b < a then a else b) = max a b := by omega
theorem moreC (a b : Int) (w : World) : Calls Try.prog 87 #[.int .i64 a, .int .i64 b] w fun e w' => e = .returned (.int .i64 (if b < a then a else b)) ∧ w = w' := by
  have D : Hid ((if b < a then a else b) = if b < a then a else b) := Lib.hid rfl
  by_cases h : b < a
  · have R : Hid ((if b < a then a else b) = a) := Lib.hid (by rw [if_pos h])
    rw [R.out]
    clear R D
    go_enter Try.func87, Try.ntmps87
    go_wp2
    go_ret
    exact ⟨rfl, rfl⟩
  · have R : Hid ((if b < a then a else b) = b) := Lib.hid (by rw [if_neg h])
    rw [R.out]
    clear R D
    go_enter Try.func87, Try.ntmps87
    go_wp2
    go_ret
    exact ⟨rfl, rfl⟩
set_option maxRecDepth 100000 in
set_option maxHeartbeats 8000000 in
theorem caps4S (ps ws zs : List Int) (v u : Value) (w : World) (pr : Proc ps ws zs) (h : TreeV w w.heap.size v ps ws) (hu : IntsV w w.heap.size u zs) :
    Calls Try.prog 75 #[v, u] w (NewInts (capT ps (ownT (sumsT ps ws) zs ps.length)) w) := by
  have gd := pr.good
  have EN := Lib.hid (fun w' (hb : Below w.heap.size w w') => sumsS ps ws v w' gd (h.boxed hb))
  have KS := Lib.hid (fun w' (L : List Int) u2 (hb : Below w.heap.size w w') (x : Nat) (hx : x < ps.length) (hL : L.length = ps.length) (hbd : ∀ y, y < ps.length → (L.getD y 0).natAbs ≤ 1000000000) (hv : IntsV w' w'.heap.size u2 L) => kids4S ps ws L v u2 x w' gd hx hL hbd (h.boxed hb) hv)
  have hlz := pr.len
  have hn24 := gd.n24
  have hn1 := gd.n1
  have WE := Lib.hid (fun (x : Nat) (hx : x < ps.length) => gd.end_iff hx)
  have WD := Lib.hid (fun (x : Nat) (hx : x < ps.length) => gd.w_bd hx)
  have NW := Lib.hid gd.nw
  have OS := Lib.hid (fun (x : Nat) (hx : x < ps.length) => own_small pr hx)
  have CS := Lib.hid (fun (x : Nat) (hx : x < ps.length) => show -479520 ≤ (capT ps (ownT (sumsT ps ws) zs ps.length)).getD x 0 ∧ (capT ps (ownT (sumsT ps ws) zs ps.length)).getD x 0 ≤ 479520 from cap_small pr 24 hx)
  have CL : Hid ((capT ps (ownT (sumsT ps ws) zs ps.length)).length = ps.length) := Lib.hid (capN_len (ownT_len _ _ _) 24)
  have LEAF := Lib.hid (fun (x : Nat) (hx : x < ps.length) (hl : leafB ps x = true) => show (capT ps (ownT (sumsT ps ws) zs ps.length)).getD x 0 = (sumsT ps ws).getD x 0 * zs.getD x 0 from by rw [← ownT_at (n := ps.length) hx]; exact capN_leaf hx hl 24)
  have INN := Lib.hid (fun (x : Nat) (hx : x < ps.length) (hl : leafB ps x = false) => show (capT ps (ownT (sumsT ps ws) zs ps.length)).getD x 0 = max ((sumsT ps ws).getD x 0 * zs.getD x 0) (kidT ps (capT ps (ownT (sumsT ps ws) zs ps.length)) x) from by
    rw [cap_all gd (ownT_len _ _ _) hx, ← ownT_at (n := ps.length) hx]
    unfold capX
    rw [if_neg (by rw [hl]; decide)])
  have HK := Lib.hid (fun (C : List Int) (x : Nat) (z : Int) => hiL_kid2 (C := C) gd (x := x) z)
  have SL : Hid ((sumsT ps ws).length = ps.length) := Lib.hid (sumsT_len gd.nw)
  have SB := Lib.hid (fun (x : Nat) (hx : x < ps.length) => sumsT_bd gd x hx)
  have ZB := Lib.hid pr.bd
  obtain ⟨v1, v2, rfl, ⟨p1, c1, rfl, l1, m1, _, i1⟩, ⟨p2, c2, rfl, l2, m2, _, i2⟩⟩ := h
  have P2 := Lib.hid i2
  obtain ⟨q, cq, rfl, lq, mq, zq, iq⟩ := hu
  have V1 := Lib.hid iq
  clear i1 i2 iq zq mq m1 m2 gd pr
  obtain ⟨i0, hi, hz0, hz1, hz2⟩ := info_parts intInfo
  have MK : Hid (∃ mk : World → World, ∀ w0, (Instr.makeSlice 22 (.int .i64 (ps.length : Int)) (.int .i64 (ps.length : Int))).run Try.prog w0 = .ok (.slice (some ⟨w0.heap.size, 0, none⟩) ps.length ps.length) (mk w0) ∧ (mk w0).ownsRow 0 3 1 (.slice (some ⟨w0.heap.size, 0, none⟩) ps.length ps.length) ps.length (List.replicate ps.length (.int .i64 0)) ∧ w0.grownBy (mk w0) none) := Lib.hid (by
    have hx : ∀ w0 : World, ∃ w', (Instr.makeSlice 22 (.int .i64 (ps.length : Int)) (.int .i64 (ps.length : Int))).run Try.prog w0 = .ok (.slice (some ⟨w0.heap.size, 0, none⟩) ps.length ps.length) w' ∧ w'.ownsRow 0 3 1 (.slice (some ⟨w0.heap.size, 0, none⟩) ps.length ps.length) ps.length (List.replicate ps.length (.int .i64 0)) ∧ w0.grownBy w' none := fun w0 => by
      obtain ⟨w', h1, h2, h3⟩ := run_make_full (P := Try.prog) w0 0 22 3 i0 (.int .i64 0) 1 Try.underlying22 hi hz0 hz1 .i64 .i64 ps.length (by rw [hz2]; omega) (by unfold maxLen; omega) (Nat.zero_le _)
      rw [show (Value.int .i64 0).cells = #[Value.int .i64 0] from rfl, Nat.mul_one, toList_madeCells_one] at h2
      exact ⟨w', h1, h2, h3⟩
    exact ⟨fun w0 => Classical.choose (hx w0), fun w0 => Classical.choose_spec (hx w0)⟩)
  obtain ⟨mk, hmk⟩ := MK.out
  have RUN := fun w0 => (hmk w0).1
  have MKO := Lib.hid (fun w0 => OwnV.made (lo := 0) (hmk w0).2.1)
  have MKB : Hid (∀ w0 : World, Below w0.heap.size w0 (mk w0)) := Lib.hid (fun w0 => (Below.refl _ _).grown (hmk w0).2.2 (Nat.le_refl _) (by simp))
  clear hmk MK
  have B1 := (Below.refl w.heap.size w).alloc (Nat.le_refl _) (.cells #[.slice p1 ps.length c1, .slice p2 ws.length c2] 28)
  obtain ⟨wa, hwa⟩ : ∃ wa, wa = w.alloc (.cells #[.slice p1 ps.length c1, .slice p2 ws.length c2] 28) := ⟨_, rfl⟩
  have T1 : Hid (TBox wa w.heap.size (.slice p1 ps.length c1) (.slice p2 ws.length c2)) := Lib.hid (by rw [hwa]; exact alloc_heap w _)
  have sz : wa.heap.size = w.heap.size + 1 := by rw [hwa]; simp
  rw [← hwa] at B1
  have HBA := Lib.hid B1
  have SZ := Lib.hid sz
  clear B1 sz
  obtain ⟨x0, x1⟩ := T1.out.cells
  obtain ⟨S, hS⟩ : ∃ S, S = sumsT ps ws := ⟨_, rfl⟩
  rw [← hS] at EN OS CS CL LEAF INN SL SB ⊢
  obtain ⟨C, hC⟩ : ∃ C, C = capT ps (ownT S zs ps.length) := ⟨_, rfl⟩
  rw [← hC] at CS CL LEAF INN ⊢
  clear hS hC
  have EP : 0 < S.length := by rw [SL.out]; exact hn1
  rw [hlz] at lq ⊢
  have zle1 : zs.length ≤ ps.length := by omega
  have zle2 : ps.length ≤ zs.length := by omega
  clear hlz
  go_enter Try.func75, Try.ntmps75
  go_upto_region 1 with fail
  rw [← hwa]
  clear hwa
  go_cut [5, 6] (fun o e wx => ∃ g1 g2 ce, o = .slice (some ⟨g1, 0, none⟩) ps.length ps.length ∧ e = .slice (some ⟨g2, 0, none⟩) S.length ce ∧ Hid (TwoC w ps S p1 p2 c1 c2 ws.length g1 g2 wx))
  case first =>
    have HE0 := Lib.hid (show MBt w w.heap.size (.slice p1 ps.length c1) (.slice p2 ws.length c2) wa from ⟨T1.out, HBA.out⟩)
    have HD := Lib.hid HE0.out.drew
    have KC : Hid (∀ w', Hid (MBt w w.heap.size (.slice p1 ps.length c1) (.slice p2 ws.length c2) w') → w'.cell? ⟨w.heap.size, 0, none⟩ = some (.slice p1 ps.length c1) ∧ w'.cell? ⟨w.heap.size, 1, none⟩ = some (.slice p2 ws.length c2)) := Lib.hid (fun w' he => he.out.1.cells)
    have KM : Hid (∀ w', Hid (MBt w w.heap.size (.slice p1 ps.length c1) (.slice p2 ws.length c2) w') → Hid (MBt w w.heap.size (.slice p1 ps.length c1) (.slice p2 ws.length c2) (mk w'))) := Lib.hid (fun w' he => Lib.hid (he.out.next (MKB.out _)))
    have HDM := KM.out _ HD
    have CE : Hid (∀ w', Hid (MBt w w.heap.size (.slice p1 ps.length c1) (.slice p2 ws.length c2) w') → Calls Try.prog 76 #[.agg #[.slice p1 ps.length c1, .slice p2 ws.length c2]] w' (NewInts S w')) := Lib.hid (fun w' he => EN.out w' he.out.2)
    have TA : Hid (∀ (w8 : World) (g2 ce : Nat), Below (mk wa.drew).heap.size (mk wa.drew) w8 → OwnV w8 (mk wa.drew).heap.size w8.heap.size (.slice (some ⟨g2, 0, none⟩) S.length ce) S → (mk wa.drew).heap.size ≤ g2 → g2 < w8.heap.size → TwoC w ps S p1 p2 c1 c2 ws.length wa.drew.heap.size g2 w8) := Lib.hid (fun w8 g2 ce b8 o8 h1 h2 => by
      have hsz : wa.drew.heap.size = w.heap.size + 1 := SZ.out
      have hlt := (MKO.out wa.drew).lt wa.drew.heap.size rfl
      refine ⟨((MKO.out wa.drew).raiseC (by omega)).below b8 |>.wide b8.size (Nat.le_refl _), fun j hj => o8.cellGet hj, by omega, h2, by omega, HDM.out.1.below b8 HDM.out.1.lt, HDM.out.2.trans (b8.mono HDM.out.2.size)⟩)
    have TB : Hid (∀ (w8 : World) (g2 ce : Nat), Hid (MBt w w.heap.size (.slice p1 ps.length c1) (.slice p2 ws.length c2) w8) → w.heap.size + 1 ≤ w8.heap.size → OwnV w8 wa.drew.heap.size w8.heap.size (.slice (some ⟨g2, 0, none⟩) S.length ce) S → g2 < w8.heap.size → TwoC w ps S p1 p2 c1 c2 ws.length w8.heap.size g2 (mk w8)) := Lib.hid (fun w8 g2 ce he h1 o8 h2 => by
      have hb := MKB.out w8
      exact ⟨(MKO.out w8).raiseC h1, fun j hj => (hb.cell (p := ⟨g2, j, none⟩) h2).trans (o8.cellGet hj), by omega, by have := hb.size; omega, h1, (KM.out _ he).out.1, (KM.out _ he).out.2⟩)
    have S8 : Hid (∀ w8 : World, Below wa.drew.heap.size wa.drew w8 → w.heap.size + 1 ≤ w8.heap.size) := Lib.hid (fun w8 b8 => by have := b8.size; have hsz : wa.drew.heap.size = w.heap.size + 1 := SZ.out; omega)
    go_region_held3 (fun w' => w'.cell? ⟨w.heap.size, 0, none⟩ = some (.slice p1 ps.length c1) ∧ w'.cell? ⟨w.heap.size, 1, none⟩ = some (.slice p2 ws.length c2))
      (first | exact KC.out _ HD | exact KC.out _ HDM | exact KC.out _ (by assumption) | exact KC.out _ (KM.out _ (by assumption)) | go_keep)
      (first
        | (go_at_call 76; (with_reducible refine (CE.out _ (by first | exact HD | exact HDM | assumption)).mono ?_); rintro e w8 ⟨u8, rfl, o8, b8⟩; (obtain ⟨g2, ce, rfl, hg1, hg2⟩ := o8.shape EP); (have HE8 := Lib.hid (MBt.next (Hid.out (by first | exact HD | exact HDM | assumption)) b8))))
    all_goals
      go_wp2_with fail
      go_meet
      refine ⟨_, _, _, rfl, rfl, Lib.hid ?_⟩
      first
        | exact TA.out _ _ _ b8 o8 hg1 hg2
        | exact TB.out _ _ _ HE8 (S8.out _ b8) o8 hg2
  obtain ⟨g1, g2, ce, rfl, rfl, hT⟩ := hcut
  obtain ⟨w3, rfl⟩ : ∃ w3 : World, w3 = wc := ⟨_, rfl⟩
  have OZ : Hid (OwnV w3 (w.heap.size + 1) w3.heap.size (.slice (some ⟨g1, 0, none⟩) ps.length ps.length) (hiL C ps.length ps.length)) := Lib.hid (by rw [hiL_top]; exact hT.out.1)
  have DC := Lib.hid hT.out.2.1
  have NE := hT.out.2.2.1
  have G2 := Lib.hid hT.out.2.2.2.1
  have G1 := hT.out.2.2.2.2.1
  have T3 := Lib.hid hT.out.2.2.2.2.2.1
  have B3 := Lib.hid hT.out.2.2.2.2.2.2
  obtain ⟨sn, hsn⟩ : ∃ sn, sn = S.length := ⟨_, rfl⟩
  have le3 : sn ≤ ps.length := by have := SL.out; omega
  have le4 : ps.length ≤ sn := by have := SL.out; omega
  rw [← hsn] at DC ⊢
  clear hT T1 HBA EN RUN MKO MKB x0 x1 SZ hsn EP
  go_wp2_with fail
  go_loopg [7] ps.length (fun gg i wr => ∃ k : Nat, k ≤ ps.length ∧ k ≤ gg ∧ i = .int .i64 ((k : Int) - 1) ∧ Hid (OwnV wr (w.heap.size + 1) wr.heap.size (.slice (some ⟨g1, 0, none⟩) ps.length ps.length) (hiL C ps.length k)) ∧ Hid (∀ j, j < sn → wr.cell? ⟨g2, j, none⟩ = some (.int .i64 (S.getD j 0))) ∧ Hid (g2 < wr.heap.size) ∧ Hid (TBox wr w.heap.size (.slice p1 ps.length c1) (.slice p2 ws.length c2)) ∧ Hid (Below w.heap.size w wr))
  case atStart => exact ⟨ps.length, Nat.le_refl _, Nat.le_refl _, rfl, OZ, DC, G2, T3, B3⟩
  case round =>
    clear OZ DC G2 T3 B3
    obtain ⟨k, hk, hgg, rfl, HO, HC, HG, HT, HB⟩ := hrel
    obtain ⟨x0, x1⟩ := HT.out.cells
    rcases Nat.eq_zero_or_pos k with hk0 | hk0
    · subst hk0
      have FIN : Hid (NewInts C w (.returned (.slice (some ⟨g1, 0, none⟩) ps.length ps.length)) wr) := Lib.hid ⟨_, rfl, by have h := HO.out.low (lo' := w.heap.size) (by omega); rwa [hiL_zero CL.out] at h, HB.out⟩
      clear HO
      go_wp2_with fail
      go_ret
      exact FIN.out
    · obtain ⟨x, rfl⟩ : ∃ x, k = x + 1 := ⟨k - 1, by omega⟩
      rw [show (((x + 1 : Nat) : Int) - 1) = (x : Int) by omega]
      have hlt : x < ps.length := by omega
      have hce := HC.out x (by omega)
      obtain ⟨b2, o2, hq2, hb2, hc2⟩ := P2.out.get (i := x) (by have := NW.out; omega)
      subst hq2
      obtain ⟨b3, o3, hq3, hb3, hc3⟩ := V1.out.get (i := x) (by omega)
      subst hq3
      have hcw : wr.cell? ⟨b2, o2 + x, none⟩ = some (.int .i64 (ws.getD x 0)) := by rw [HB.out.cell (p := ⟨b2, o2 + x, none⟩) hb2, hc2]
      have hcv : wr.cell? ⟨b3, o3 + x, none⟩ = some (.int .i64 (zs.getD x 0)) := by rw [HB.out.cell (p := ⟨b3, o3 + x, none⟩) hb3, hc3]
      have os := OS.out x hlt
      have we := WE.out x hlt
      have wd := WD.out x hlt
      have hold := HO.out.cellGet (j := x) (by rw [hiL_len]; exact hlt)
      have hfz := HO.out.frozenGet x
      obtain ⟨old, hod⟩ : ∃ old, old = (hiL C ps.length (x + 1)).getD x 0 := ⟨_, rfl⟩
      obtain ⟨sx, hsx⟩ : ∃ sx, sx = S.getD x 0 := ⟨_, rfl⟩
      obtain ⟨zx, hzx⟩ : ∃ zx, zx = zs.getD x 0 := ⟨_, rfl⟩
      obtain ⟨wx, hwx⟩ : ∃ wx, wx = ws.getD x 0 := ⟨_, rfl⟩
      have LF := LEAF.out x hlt
      have IN := INN.out x hlt
      rw [← hod] at hold
      rw [← hsx] at hce os LF IN
      rw [← hzx] at hcv os LF IN
      rw [← hwx] at hcw we wd
      have HHK := Lib.hid (HK.out C x (sx * zx))
      have HSET := Lib.hid (hiL_set (C := C) hlt)
      have O4 := Lib.hid (HO.out.setAt x (x := sx * zx) (by unfold InI64; omega))
      have C4 : Hid (∀ j, j < sn → (wr.setCell ⟨g1, x, none⟩ (.int .i64 (sx * zx))).cell? ⟨g2, j, none⟩ = some (.int .i64 (S.getD j 0))) := Lib.hid (fun j hj => by rw [World.cell?_setCell_other _ _ _ _ (by intro e; injection e; omega)]; exact HC.out j hj)
      have G4 : Hid (g2 < (wr.setCell ⟨g1, x, none⟩ (.int .i64 (sx * zx))).heap.size) := Lib.hid (by simpa [World.setCell] using HG.out)
      have T4 := Lib.hid (HT.out.set (g := g1) (o := x) (x := .int .i64 (sx * zx)) (by omega))
      have B4 := Lib.hid (HB.out.setCell (p := ⟨g1, x, none⟩) (by simp; omega) (.int .i64 (sx * zx)))
      have W4 : Hid ((wr.setCell ⟨g1, x, none⟩ (.int .i64 (sx * zx))).cell? ⟨b2, o2 + x, none⟩ = some (.int .i64 wx)) := Lib.hid (by rw [B4.out.cell (p := ⟨b2, o2 + x, none⟩) hb2, hc2, hwx])
      have i0 : (0 : Int) ≤ (x : Int) := by omega
      have i1 : (x : Int) < (ps.length : Int) := by omega
      have i2 : (x : Int) < (sn : Int) := by omega
      have i3 : (x : Int) < (ws.length : Int) := by have := NW.out; omega
      have WRH := Lib.hid (show IntKind.i64.wrap (sx * zx) = sx * zx from IntWalk.i64_in _ (by omega))
      have OLEN : Hid (((hiL C ps.length (x + 1)).set x (sx * zx)).length = ps.length) := Lib.hid (by rw [List.length_set, hiL_len])
      have OBD : Hid (∀ y, y < ps.length → (((hiL C ps.length (x + 1)).set x (sx * zx)).getD y 0).natAbs ≤ 1000000000) := Lib.hid (fun y hy => by
        by_cases e : x = y
        · subst e; rw [getD_set_same (by rw [hiL_len]; exact hy)]; omega
        · rw [getD_set_other e, hiL_at hy]
          split
          · have := CS.out y hy; omega
          · simp)
      have OAT : Hid (((hiL C ps.length (x + 1)).set x (sx * zx)).getD x 0 = sx * zx) := Lib.hid (getD_set_same (by rw [hiL_len]; exact hlt))
      have OSET : Hid (∀ z, (((hiL C ps.length (x + 1)).set x (sx * zx)).set x z) = (hiL C ps.length (x + 1)).set x z) := Lib.hid (fun z => List.set_set ..)
      obtain ⟨M, hM⟩ : ∃ M, M = (hiL C ps.length (x + 1)).set x (sx * zx) := ⟨_, rfl⟩
      rw [← hM] at O4 OLEN OBD HHK OAT OSET
      clear hod hsx hzx hwx hM HO HC HG HT HB hc2 hc3 x0 x1
      have WR := WRH.out
      go_wp2_with fail
      go_region
      clear WR WRH
      have O5 : Hid (OwnV (wr.setCell ⟨g1, x, none⟩ (.int .i64 (sx * zx))).drew (w.heap.size + 1) (wr.setCell ⟨g1, x, none⟩ (.int .i64 (sx * zx))).drew.heap.size (.slice (some ⟨g1, 0, none⟩) ps.length ps.length) M) := Lib.hid (by have h := O4.out.below (below_drew (Below.refl _ _)); simpa [World.setCell] using h)
      have C5 : Hid (∀ j, j < sn → (wr.setCell ⟨g1, x, none⟩ (.int .i64 (sx * zx))).drew.cell? ⟨g2, j, none⟩ = some (.int .i64 (S.getD j 0))) := C4
      have G5 : Hid (g2 < (wr.setCell ⟨g1, x, none⟩ (.int .i64 (sx * zx))).drew.heap.size) := G4
      have T5 : Hid (TBox (wr.setCell ⟨g1, x, none⟩ (.int .i64 (sx * zx))).drew w.heap.size (.slice p1 ps.length c1) (.slice (some ⟨b2, o2, none⟩) ws.length c2)) := T4
      have B5 : Hid (Below w.heap.size w (wr.setCell ⟨g1, x, none⟩ (.int .i64 (sx * zx))).drew) := Lib.hid (below_drew B4.out)
      have W5 : (wr.setCell ⟨g1, x, none⟩ (.int .i64 (sx * zx))).drew.cell? ⟨b2, o2 + x, none⟩ = some (.int .i64 wx) := W4.out
      have OI5 := Lib.hid O5.out.intsV
      have cx5 := O5.out.cellGet (j := x) (by rw [OLEN.out]; exact hlt)
      rw [OAT.out] at cx5
      have fz5 := O5.out.frozenGet x
      obtain ⟨w5, hw5⟩ : ∃ w5, w5 = (wr.setCell ⟨g1, x, none⟩ (.int .i64 (sx * zx))).drew := ⟨_, rfl⟩
      rw [← hw5] at O5 C5 G5 T5 B5 W5 OI5 cx5 fz5 ⊢
      clear hw5 O4 C4 G4 T4 B4 W4 hold hcw hcv hce hfz
      obtain ⟨x0, x1⟩ := T5.out.cells
      have gl1 : g1 < w5.heap.size := O5.out.lt g1 (by simp [Value.ownBlock])
      by_cases h1 : wx = 0
      · have hl : leafB ps x = false := by
          cases hl : leafB ps x
          · rfl
          · have := we.2 hl; omega
        have IN2 := IN hl
        have cs := CS.out x hlt
        have CK : Hid (∀ w', Hid (Below w5.heap.size w5 w') → Calls Try.prog 77 #[.agg #[.slice p1 ps.length c1, .slice (some ⟨b2, o2, none⟩) ws.length c2], .slice (some ⟨g1, 0, none⟩) ps.length ps.length, .int .i64 (x : Int)] w' (Gives (.int .i64 (kidT ps C x)) w')) := Lib.hid (fun w' hb => by
          rw [← HHK.out]
          exact KS.out w' M _ (B5.out.trans (hb.out.mono B5.out.size)) x hlt OLEN.out OBD.out ((OI5.out.below hb.out).more hb.out.size))
        obtain ⟨kk, hkk⟩ : ∃ kk, kk = kidT ps C x := ⟨_, rfl⟩
        rw [← hkk] at CK IN2
        have HMAX := Lib.hid (show (if kk < sx * zx then sx * zx else kk) = C.getD x 0 from by rw [most_max, IN2])
        have hw0 : (wx == 0) = true := by simp [h1]
        subst h1
        have HD0 : Hid (Below w5.heap.size w5 w5) := Lib.hid (Below.refl _ _)
        have HD : Hid (Below w5.heap.size w5 w5.drew) := Lib.hid (below_drew (Below.refl _ _))
        have HS2 : Hid (M.set x (C.getD x 0) = hiL C ps.length x) := Lib.hid (by rw [OSET.out, HSET.out])
        have cs2 : InI64 (C.getD x 0) := by unfold InI64; omega
        have KX : Hid (∀ w', Hid (Below w5.heap.size w5 w') → w'.cell? ⟨w.heap.size, 0, none⟩ = some (.slice p1 ps.length c1) ∧ w'.cell? ⟨w.heap.size, 1, none⟩ = some (.slice (some ⟨b2, o2, none⟩) ws.length c2) ∧ w'.cell? ⟨g1, x, none⟩ = some (.int .i64 (sx * zx)) ∧ w'.frozen? ⟨g1, x, none⟩ = false) := Lib.hid (fun w' hb => ⟨(T5.out.below hb.out T5.out.lt).cells.1, (T5.out.below hb.out T5.out.lt).cells.2, (hb.out.cell (p := ⟨g1, x, none⟩) gl1).trans cx5, ((O5.out.below hb.out)).frozenGet x⟩)
        have FIN : Hid (∀ w', Hid (Below w5.heap.size w5 w') → Hid (OwnV (w'.setCell ⟨g1, x, none⟩ (.int .i64 (C.getD x 0))) (w.heap.size + 1) (w'.setCell ⟨g1, x, none⟩ (.int .i64 (C.getD x 0))).heap.size (.slice (some ⟨g1, 0, none⟩) ps.length ps.length) (hiL C ps.length x)) ∧ Hid (∀ j, j < sn → (w'.setCell ⟨g1, x, none⟩ (.int .i64 (C.getD x 0))).cell? ⟨g2, j, none⟩ = some (.int .i64 (S.getD j 0))) ∧ Hid (g2 < (w'.setCell ⟨g1, x, none⟩ (.int .i64 (C.getD x 0))).heap.size) ∧ Hid (TBox (w'.setCell ⟨g1, x, none⟩ (.int .i64 (C.getD x 0))) w.heap.size (.slice p1 ps.length c1) (.slice (some ⟨b2, o2, none⟩) ws.length c2)) ∧ Hid (Below w.heap.size w (w'.setCell ⟨g1, x, none⟩ (.int .i64 (C.getD x 0))))) := Lib.hid (fun w' hb => by
          have h1 := ((O5.out.below hb.out).wide hb.out.size (Nat.le_refl _)).setAt x (x := C.getD x 0) cs2
          rw [HS2.out] at h1
          have hs : (w'.setCell ⟨g1, x, none⟩ (.int .i64 (C.getD x 0))).heap.size = w'.heap.size := by simp [World.setCell]
          rw [hs]
          refine ⟨Lib.hid h1, Lib.hid (fun j hj => ?_), Lib.hid ?_, Lib.hid ?_, Lib.hid ?_⟩
          · rw [World.cell?_setCell_other _ _ _ _ (by intro e; injection e; omega), hb.out.cell (p := ⟨g2, j, none⟩) G5.out]; exact C5.out j hj
          · exact Nat.lt_of_lt_of_le G5.out hb.out.size
          · exact (T5.out.below hb.out T5.out.lt).set (g := g1) (o := x) (by omega)
          · exact (B5.out.trans (hb.out.mono B5.out.size)).setCell (p := ⟨g1, x, none⟩) (by simp; omega) _)
        clear hkk we wd hw0 IN LF IN2 cs OSET HSET O5 C5 G5 T5 B5 OI5 fz5 cx5
        obtain ⟨y0, y1, y2, y3⟩ := KX.out w5 HD0
        clear x0 x1
        go_wp2_with fail
        go_region_with (first
          | (go_at_call 77; (with_reducible refine (CK.out _ HD).mono ?_); rintro e w7 ⟨rfl, b7⟩; (have HB7 := hb_next (wa := w5) HD b7); (obtain ⟨z0, z1, z2, z3⟩ := KX.out w7 HB7); clear b7)
          | (go_at_call 87; (with_reducible refine (moreC _ _ _).mono ?_); rintro e w8 ⟨rfl, rfl⟩; rw [HMAX.out]))
        all_goals
          obtain ⟨F1, F2, F3, F4, F5⟩ := FIN.out _ HB7
          go_wp2_with fail
          go_roundg x
          case rel => exact ⟨x, by omega, by omega, by go_num, F1, F2, F3, F4, F5⟩
          case measure => omega
      · have hl : leafB ps x = true := we.1 (by omega)
        have hw0 : (wx == 0) = false := by simp [h1]
        have LF2 := LF hl
        have HS2 : Hid (M = hiL C ps.length x) := Lib.hid (by rw [← HSET.out, LF2, ← OSET.out, ← OAT.out]; exact (set_same (by rw [OLEN.out]; exact hlt)).symm)
        rw [HS2.out] at O5
        clear LF LF2 IN we wd OSET HSET OI5 fz5 cx5
        go_wp2_with fail
        go_roundg x
        case rel => exact ⟨x, by omega, by omega, by go_num, O5, C5, G5, T5, B5⟩
        case measure => omega
end Go.Proofs.Ytfpckfameebdnaa
