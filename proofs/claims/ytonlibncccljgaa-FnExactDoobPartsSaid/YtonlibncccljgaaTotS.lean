/- Sums of weighed values, in the model. -/
import Derived.Test.YtonlibncccljgaaPayW
import Derived.Test.YtonlibncccljgaaMBt
import Derived.Test.YtonlibncccljgaaHeldMore
import Derived.Test.YtonlibncccljgaaSumS
import Derived.Deep.RegionHeld3
import Derived.Deep.DeepCutAuto
namespace Go.Proofs.Ytonlibncccljgaa
open Go.RowKit
set_option linter.unusedVariables false
theorem OwnV.raise {w : World} {lo lo' hi g n c : Nat} {zs : List Int} (h : OwnV w lo hi (.slice (some ⟨g, 0, none⟩) n c) zs) (hg : lo' ≤ g) : OwnV w lo' hi (.slice (some ⟨g, 0, none⟩) n c) zs := by
  refine ⟨⟨h.row.1, ?_⟩, h.lt, h.room, h.in64⟩
  rcases h.row.2 with ⟨h1, _⟩ | ⟨g', cap, cur, h2, _, rest⟩
  · cases h1
  · refine .inr ⟨g', cap, cur, h2, ?_, rest⟩
    injection h2 with h2; injection h2 with h2; injection h2 with h2
    omega
/-- What the row holds behind k ends. -/
def fillT (ps ws vs : List Int) (k : Nat) : List Int := (List.range ps.length).map fun x => if leafB ps x = true ∧ rankL ps x < k then ws.getD x 0 * vs.getD (rankL ps x) 0 else 0
theorem fillT_len (ps ws vs : List Int) (k : Nat) : (fillT ps ws vs k).length = ps.length := by simp [fillT]
theorem fillT_at {ps ws vs : List Int} {k x : Nat} (hx : x < ps.length) : (fillT ps ws vs k).getD x 0 = if leafB ps x = true ∧ rankL ps x < k then ws.getD x 0 * vs.getD (rankL ps x) 0 else 0 := by
  rw [List.getD_eq_getElem?_getD, List.getElem?_eq_getElem (by rw [fillT_len]; exact hx)]
  simp [fillT]
theorem fillT_zero (ps ws vs : List Int) : fillT ps ws vs 0 = List.replicate ps.length 0 := by
  refine list_ext_getD (by rw [fillT_len]; simp) (fun y hy => ?_)
  rw [fillT_len] at hy
  rw [fillT_at hy, if_neg (by omega), List.getD_eq_getElem?_getD, List.getElem?_replicate, if_pos hy]; rfl
theorem fillT_all (ps ws vs : List Int) : fillT ps ws vs (endsT ps).length = valsT ps ws vs := by
  refine list_ext_getD (by rw [fillT_len, valsT_len]) (fun y hy => ?_)
  rw [fillT_len] at hy
  rw [fillT_at hy, valsT_at hy]
  cases hl : leafB ps y
  · simp
  · have := (rank_end hy hl).1
    simp [this]
theorem fillT_set {ps ws vs : List Int} {k x : Nat} (hk : k < (endsT ps).length) (hx : x < ps.length) (he : (endsT ps).getD k 0 = (x : Int)) (hl : leafB ps x = true) :
    (fillT ps ws vs k).set x (ws.getD x 0 * vs.getD k 0) = fillT ps ws vs (k + 1) := by
  have hr : rankL ps x = k := by
    obtain ⟨h1, h2⟩ := rank_end hx hl
    have hp := List.pairwise_iff_getElem.1 (ends_up ps)
    have e : (endsT ps).getD (rankL ps x) 0 = (endsT ps).getD k 0 := by rw [h2, he]
    rw [List.getD_eq_getElem?_getD, List.getD_eq_getElem?_getD, List.getElem?_eq_getElem h1, List.getElem?_eq_getElem hk] at e
    simp only [Option.getD_some] at e
    rcases Nat.lt_trichotomy (rankL ps x) k with h | h | h
    · have := hp _ _ h1 hk h; omega
    · exact h
    · have := hp _ _ hk h1 h; omega
  refine list_ext_getD (by rw [List.length_set, fillT_len, fillT_len]) (fun y hy => ?_)
  rw [List.length_set, fillT_len] at hy
  by_cases hxy : y = x
  · subst hxy
    rw [getD_set_same (by rw [fillT_len]; exact hx), fillT_at hx, if_pos ⟨hl, by omega⟩, hr]
  · rw [getD_set_other (fun e => hxy e.symm), fillT_at hy, fillT_at hy]
    cases hly : leafB ps y
    · simp
    · have h2 := (rank_end hy hly).2
      have hne : rankL ps y ≠ k := fun e => by
        rw [e, he] at h2
        omega
      by_cases hlt : rankL ps y < k
      · rw [if_pos ⟨rfl, hlt⟩, if_pos ⟨rfl, by omega⟩]
      · rw [if_neg (fun h => hlt h.2), if_neg (fun h => by omega)]
theorem fillT_bd {ps ws vs : List Int} (g : Good ps ws) (B : Nat) (hb : ∀ i, (vs.getD i 0).natAbs ≤ B) (k x : Nat) (hx : x < ps.length) : ((fillT ps ws vs k).getD x 0).natAbs ≤ 20 * B := by
  rw [fillT_at hx]
  split
  · have := g.w_bd hx
    exact natAbs_mul_le (by omega) (hb _)
  · simp
/-- What the two rows are behind the first statement. -/
def TwoR (w : World) (ps E : List Int) (p1 p2 : Option Addr) (c1 c2 n2 g1 g2 : Nat) (wx : World) : Prop :=
  OwnV wx (w.heap.size + 1) wx.heap.size (.slice (some ⟨g1, 0, none⟩) ps.length ps.length) (List.replicate ps.length 0) ∧ (∀ j, j < E.length → wx.cell? ⟨g2, j, none⟩ = some (.int .i64 (E.getD j 0))) ∧ g1 ≠ g2 ∧ g2 < wx.heap.size ∧ w.heap.size + 1 ≤ g1 ∧
  TBox wx w.heap.size (.slice p1 ps.length c1) (.slice p2 n2 c2) ∧ Below w.heap.size w wx
set_option maxRecDepth 100000 in
set_option maxHeartbeats 8000000 in
theorem totS (ps ws vs : List Int) (B : Nat) (hB : B ≤ 998001) (v u : Value) (w : World) (gd : Good ps ws) (hvl : vs.length = (endsT ps).length) (hvb : ∀ i, (vs.getD i 0).natAbs ≤ B) (h : TreeV w w.heap.size v ps ws) (hu : IntsV w w.heap.size u vs) :
    Calls Try.prog 139 #[v, u] w (NewInts (upL ps (valsT ps ws vs) (ps.length - 1)) w) := by
  have EN := Lib.hid (fun w' (hb : Below w.heap.size w w') => endsS ps ws v w' (h.boxed hb) gd.n24 (parAll gd))
  obtain ⟨v1, v2, rfl, ⟨p1, c1, rfl, l1, m1, _, i1⟩, ⟨p2, c2, rfl, l2, m2, _, i2⟩⟩ := h
  have P1 := Lib.hid i1
  have P2 := Lib.hid i2
  obtain ⟨q, cq, rfl, lq, mq, zq, iq⟩ := hu
  have V1 := Lib.hid iq
  clear i1 i2 iq zq mq m1 m2
  have hn24 := gd.n24
  have hn1 := gd.n1
  obtain ⟨i0, hi, hz0, hz1, hz2⟩ := info_parts intInfo
  have MK : Hid (∃ mk : World → World, ∀ w0, (Instr.makeSlice 22 (.int .i64 (ps.length : Int)) (.int .i64 (ps.length : Int))).run Try.prog w0 = .ok (.slice (some ⟨w0.heap.size, 0, none⟩) ps.length ps.length) (mk w0) ∧ (mk w0).ownsRow 0 3 1 (.slice (some ⟨w0.heap.size, 0, none⟩) ps.length ps.length) ps.length (List.replicate ps.length (.int .i64 0)) ∧ w0.grownBy (mk w0) none) := Lib.hid (by
    have hx : ∀ w0 : World, ∃ w', (Instr.makeSlice 22 (.int .i64 (ps.length : Int)) (.int .i64 (ps.length : Int))).run Try.prog w0 = .ok (.slice (some ⟨w0.heap.size, 0, none⟩) ps.length ps.length) w' ∧ w'.ownsRow 0 3 1 (.slice (some ⟨w0.heap.size, 0, none⟩) ps.length ps.length) ps.length (List.replicate ps.length (.int .i64 0)) ∧ w0.grownBy w' none := fun w0 => by
      obtain ⟨w', h1, h2, h3⟩ := run_make_full (P := Try.prog) w0 0 22 3 i0 (.int .i64 0) 1 Try.underlying22 hi hz0 hz1 .i64 .i64 ps.length (by rw [hz2]; omega) (by unfold maxLen; omega) (Nat.zero_le _)
      rw [show (Value.int .i64 0).cells = #[Value.int .i64 0] from rfl, Nat.mul_one, toList_madeCells_one] at h2
      exact ⟨w', h1, h2, h3⟩
    exact ⟨fun w0 => Classical.choose (hx w0), fun w0 => Classical.choose_spec (hx w0)⟩)
  obtain ⟨mk, hmk⟩ := MK.out
  have RUN := fun w0 => (hmk w0).1
  have MKO := Lib.hid (fun w0 => OwnV.made (lo := 0) (hmk w0).2.1)
  have MKB : Hid (∀ w0 : World, Below w0.heap.size w0 (mk w0)) := Lib.hid (fun w0 => (Below.refl _ _).grown (hmk w0).2.2 (Nat.le_refl _) (by simp))
  clear hmk MK
  have B1 := (Below.refl w.heap.size w).alloc (Nat.le_refl _) (.cells #[.slice p1 ps.length c1, .slice p2 ws.length c2] 29)
  obtain ⟨wa, hwa⟩ : ∃ wa, wa = w.alloc (.cells #[.slice p1 ps.length c1, .slice p2 ws.length c2] 29) := ⟨_, rfl⟩
  have T1 : Hid (TBox wa w.heap.size (.slice p1 ps.length c1) (.slice p2 ws.length c2)) := Lib.hid (by rw [hwa]; exact alloc_heap w _)
  have sz : wa.heap.size = w.heap.size + 1 := by rw [hwa]; simp
  rw [← hwa] at B1
  have HBA := Lib.hid B1
  have SZ := Lib.hid sz
  clear B1 sz
  obtain ⟨x0, x1⟩ := T1.out.cells
  have EP := ends_pos gd
  have EL := ends_le ps
  obtain ⟨E, hE⟩ : ∃ E, E = endsT ps := ⟨_, rfl⟩
  have HEQ := Lib.hid hE
  rw [← hE] at EN EP EL hvl
  have HVL := Lib.hid hvl
  clear hE hvl
  go_enter Try.func139, Try.ntmps139
  go_upto_region 1 with fail
  rw [← hwa]
  clear hwa
  go_cut [5, 6] (fun o e wx => ∃ g1 g2 ce, o = .slice (some ⟨g1, 0, none⟩) ps.length ps.length ∧ e = .slice (some ⟨g2, 0, none⟩) E.length ce ∧ Hid (TwoR w ps E p1 p2 c1 c2 ws.length g1 g2 wx))
  case first =>
    have HE0 := Lib.hid (show MBt w w.heap.size (.slice p1 ps.length c1) (.slice p2 ws.length c2) wa from ⟨T1.out, HBA.out⟩)
    have HD := Lib.hid HE0.out.drew
    have KC : Hid (∀ w', Hid (MBt w w.heap.size (.slice p1 ps.length c1) (.slice p2 ws.length c2) w') → w'.cell? ⟨w.heap.size, 0, none⟩ = some (.slice p1 ps.length c1) ∧ w'.cell? ⟨w.heap.size, 1, none⟩ = some (.slice p2 ws.length c2)) := Lib.hid (fun w' he => he.out.1.cells)
    have KM : Hid (∀ w', Hid (MBt w w.heap.size (.slice p1 ps.length c1) (.slice p2 ws.length c2) w') → Hid (MBt w w.heap.size (.slice p1 ps.length c1) (.slice p2 ws.length c2) (mk w'))) := Lib.hid (fun w' he => Lib.hid (he.out.next (MKB.out _)))
    have HDM := KM.out _ HD
    have CE : Hid (∀ w', Hid (MBt w w.heap.size (.slice p1 ps.length c1) (.slice p2 ws.length c2) w') → Calls Try.prog 87 #[.agg #[.slice p1 ps.length c1, .slice p2 ws.length c2]] w' (NewInts E w')) := Lib.hid (fun w' he => EN.out w' he.out.2)
    have TA : Hid (∀ (w8 : World) (g2 ce : Nat), Below (mk wa.drew).heap.size (mk wa.drew) w8 → OwnV w8 (mk wa.drew).heap.size w8.heap.size (.slice (some ⟨g2, 0, none⟩) E.length ce) E → (mk wa.drew).heap.size ≤ g2 → g2 < w8.heap.size → TwoR w ps E p1 p2 c1 c2 ws.length wa.drew.heap.size g2 w8) := Lib.hid (fun w8 g2 ce b8 o8 h1 h2 => by
      have hsz : wa.drew.heap.size = w.heap.size + 1 := SZ.out
      have hlt := (MKO.out wa.drew).lt wa.drew.heap.size rfl
      refine ⟨((MKO.out wa.drew).raise (by omega)).below b8 |>.wide b8.size (Nat.le_refl _), fun j hj => o8.cellGet hj, by omega, h2, by omega, HDM.out.1.below b8 HDM.out.1.lt, HDM.out.2.trans (b8.mono HDM.out.2.size)⟩)
    have TB : Hid (∀ (w8 : World) (g2 ce : Nat), Hid (MBt w w.heap.size (.slice p1 ps.length c1) (.slice p2 ws.length c2) w8) → w.heap.size + 1 ≤ w8.heap.size → OwnV w8 wa.drew.heap.size w8.heap.size (.slice (some ⟨g2, 0, none⟩) E.length ce) E → g2 < w8.heap.size → TwoR w ps E p1 p2 c1 c2 ws.length w8.heap.size g2 (mk w8)) := Lib.hid (fun w8 g2 ce he h1 o8 h2 => by
      have hb := MKB.out w8
      exact ⟨(MKO.out w8).raise h1, fun j hj => (hb.cell (p := ⟨g2, j, none⟩) h2).trans (o8.cellGet hj), by omega, by have := hb.size; omega, h1, (KM.out _ he).out.1, (KM.out _ he).out.2⟩)
    have S8 : Hid (∀ w8 : World, Below wa.drew.heap.size wa.drew w8 → w.heap.size + 1 ≤ w8.heap.size) := Lib.hid (fun w8 b8 => by have := b8.size; have hsz : wa.drew.heap.size = w.heap.size + 1 := SZ.out; omega)
    go_region_held3 (fun w' => w'.cell? ⟨w.heap.size, 0, none⟩ = some (.slice p1 ps.length c1) ∧ w'.cell? ⟨w.heap.size, 1, none⟩ = some (.slice p2 ws.length c2))
      (first | exact KC.out _ HD | exact KC.out _ HDM | exact KC.out _ (by assumption) | exact KC.out _ (KM.out _ (by assumption)) | go_keep)
      (first
        | (go_at_call 87; (with_reducible refine (CE.out _ (by first | exact HD | exact HDM | assumption)).mono ?_); rintro e w8 ⟨u8, rfl, o8, b8⟩; (obtain ⟨g2, ce, rfl, hg1, hg2⟩ := o8.shape EP); (have HE8 := Lib.hid (MBt.next (Hid.out (by first | exact HD | exact HDM | assumption)) b8))))
    all_goals
      go_wp2_with fail
      go_meet
      refine ⟨_, _, _, rfl, rfl, Lib.hid ?_⟩
      first
        | exact TA.out _ _ _ b8 o8 hg1 hg2
        | exact TB.out _ _ _ HE8 (S8.out _ b8) o8 hg2
  obtain ⟨g1, g2, ce, rfl, rfl, hT⟩ := hcut
  obtain ⟨w3, rfl⟩ : ∃ w3 : World, w3 = wc := ⟨_, rfl⟩
  have F0 := Lib.hid (fillT_zero ps ws vs)
  have OZ : Hid (OwnV w3 (w.heap.size + 1) w3.heap.size (.slice (some ⟨g1, 0, none⟩) ps.length ps.length) (fillT ps ws vs 0)) := Lib.hid (by rw [F0.out]; exact hT.out.1)
  have DC := Lib.hid hT.out.2.1
  have NE := hT.out.2.2.1
  have G2 := Lib.hid hT.out.2.2.2.1
  have G1 := hT.out.2.2.2.2.1
  have T3 := Lib.hid hT.out.2.2.2.2.2.1
  have B3 := Lib.hid hT.out.2.2.2.2.2.2
  have FB := Lib.hid (fun k x (hx : x < ps.length) => fillT_bd gd B hvb k x hx)
  have EI := Lib.hid (fun i (hi : i < (endsT ps).length) => ends_in hi)
  have FS := Lib.hid (fun k x (hk : k < (endsT ps).length) (hx : x < ps.length) he hl => fillT_set (ws := ws) (vs := vs) hk hx he hl)
  have FA := Lib.hid (fillT_all ps ws vs)
  rw [← HEQ.out] at EI FS FA
  have GW := Lib.hid (fun x (hx : x < ps.length) => gd.w_bd hx)
  have NW := Lib.hid gd.nw
  have VBH := Lib.hid hvb
  have HP := Lib.hid (ParOk.of gd)
  have UA := Lib.hid (fun m hm => (upL_abs (ParOk.of gd) (valsT_len ps ws vs) m hm).2)
  have VS := Lib.hid (valsT_sum (vs := vs) gd B hvb)
  clear hT gd hvb F0 T1 HBA EN RUN MKO MKB x0 x1 SZ
  go_wp2_with fail
  go_loopw [7] (fun i wr => ∃ k : Nat, k ≤ E.length ∧ i = .int .i64 k ∧ Hid (OwnV wr (w.heap.size + 1) wr.heap.size (.slice (some ⟨g1, 0, none⟩) ps.length ps.length) (fillT ps ws vs k)) ∧ Hid (∀ j, j < E.length → wr.cell? ⟨g2, j, none⟩ = some (.int .i64 (E.getD j 0))) ∧ Hid (TBox wr w.heap.size (.slice p1 ps.length c1) (.slice p2 ws.length c2)) ∧ Hid (Below w.heap.size w wr)) (fun i _ => E.length - (intOf i).toNat)
  case atStart => exact ⟨0, Nat.zero_le _, rfl, OZ, DC, T3, B3⟩
  case round =>
    obtain ⟨k, hk, rfl, HO, HC, HT, HB⟩ := hrel
    obtain ⟨x0, x1⟩ := HT.out.cells
    clear OZ DC T3 B3
    by_cases hlt : k < E.length
    · have hce := HC.out k hlt
      obtain ⟨x, hx, hxl, hlf⟩ := EI.out k hlt
      have ST := Lib.hid (FS.out k x hlt hxl hx.symm hlf)
      rw [← hx] at hce
      have hxw : x < ws.length := by have := NW.out; omega
      have hkv : k < vs.length := by have := HVL.out; omega
      obtain ⟨b2, o2, rfl, hb2, hc2⟩ := P2.out.get hxw
      obtain ⟨b3, o3, rfl, hb3, hc3⟩ := V1.out.get hkv
      have hcw : wr.cell? ⟨b2, o2 + x, none⟩ = some (.int .i64 (ws.getD x 0)) := by rw [HB.out.cell (p := ⟨b2, o2 + x, none⟩) hb2, hc2]
      have hcv : wr.cell? ⟨b3, o3 + k, none⟩ = some (.int .i64 (vs.getD k 0)) := by rw [HB.out.cell (p := ⟨b3, o3 + k, none⟩) hb3, hc3]
      have PR := natAbs_mul_le (x := ws.getD x 0) (y := vs.getD k 0) (a := 20) (b := B) (by have := GW.out x hxl; omega) (VBH.out k)
      have hold := HO.out.cellGet (j := x) (by rw [fillT_len]; exact hxl)
      have hfz := HO.out.frozenGet x
      obtain ⟨z, hz⟩ : ∃ z, z = ws.getD x 0 := ⟨_, rfl⟩
      obtain ⟨y, hy⟩ : ∃ y, y = vs.getD k 0 := ⟨_, rfl⟩
      obtain ⟨old, hod⟩ : ∃ old, old = (fillT ps ws vs k).getD x 0 := ⟨_, rfl⟩
      rw [← hz] at hcw PR ST
      rw [← hy] at hcv PR ST
      rw [← hod] at hold
      have O4 := Lib.hid (HO.out.setAt x (x := z * y) (by unfold InI64; omega))
      rw [ST.out] at O4
      have C4 : Hid (∀ j, j < E.length → (wr.setCell ⟨g1, x, none⟩ (.int .i64 (z * y))).cell? ⟨g2, j, none⟩ = some (.int .i64 (E.getD j 0))) := Lib.hid (fun j hj => by rw [World.cell?_setCell_other _ _ _ _ (by intro e; injection e; omega)]; exact HC.out j hj)
      have T4 := Lib.hid (HT.out.set (g := g1) (o := x) (x := .int .i64 (z * y)) (by omega))
      have B4 := Lib.hid (HB.out.setCell (p := ⟨g1, x, none⟩) (by simp; omega) (.int .i64 (z * y)))
      have i0 : (0 : Int) ≤ (k : Int) := by omega
      have i1 : (k : Int) < (E.length : Int) := by omega
      have i2 : (k : Int) < (vs.length : Int) := by omega
      have j0 : (0 : Int) ≤ (x : Int) := by omega
      have j1 : (x : Int) < (ps.length : Int) := by omega
      have j2 : (x : Int) < (ws.length : Int) := by omega
      have WR : IntKind.i64.wrap (z * y) = z * y := IntWalk.i64_in _ (by omega)
      clear hz hy hod hx PR ST HO HC HT HB hc2 hc3 hlf
      go_wp2_with fail
      go_region
      go_wp2_with fail
      clear WR
      go_roundw
      case rel => exact ⟨k + 1, by omega, by go_num, Lib.hid (by have h := O4.out.below (below_drew (Below.refl _ _)); simpa [World.setCell] using h), Lib.hid (fun j hj => C4.out j hj), Lib.hid (show TBox _ _ _ _ from T4.out), Lib.hid (below_drew B4.out)⟩
      case measure => simp [intOf]; omega
    · have hkE : k = E.length := by omega
      have O5 : Hid (OwnV wr (w.heap.size + 1) wr.heap.size (.slice (some ⟨g1, 0, none⟩) ps.length ps.length) (upL ps (valsT ps ws vs) 0)) := Lib.hid (by have h := HO.out; rw [hkE, FA.out] at h; exact h)
      have LV := Lib.hid (valsT_len ps ws vs)
      have UB : Hid (∀ m, m + 1 ≤ ps.length → ∀ j, j < ps.length → -500000000 ≤ (upL ps (valsT ps ws vs) m).getD j 0 ∧ (upL ps (valsT ps ws vs) m).getD j 0 ≤ 500000000) := Lib.hid (fun m hm j hj => by
        have h1 := UA.out m hm j hj
        have h2 := VS.out
        have h3 : ps.length * (20 * B) ≤ 24 * (20 * 998001) := Nat.mul_le_mul (by omega) (by omega)
        omega)
      obtain ⟨VL, hVL⟩ : ∃ VL, VL = valsT ps ws vs := ⟨_, rfl⟩
      rw [← hVL] at O5 LV UB
      have HVE := Lib.hid hVL
      clear hVL HO HC FA UA VS FS FB EI hkE x0 x1
      obtain ⟨W0, hW0⟩ : ∃ W0, W0 = wr := ⟨_, rfl⟩
      have T5 := HT
      have B5 := HB
      clear hW0
      go_wp2_with fail
      go_loopw [8] (fun i wr => ∃ k : Nat, 1 ≤ k ∧ k ≤ ps.length ∧ i = .int .i64 ((k : Int) - 1) ∧ Hid (OwnV wr (w.heap.size + 1) wr.heap.size (.slice (some ⟨g1, 0, none⟩) ps.length ps.length) (upL ps VL (ps.length - k))) ∧ Hid (TBox wr w.heap.size (.slice p1 ps.length c1) (.slice p2 ws.length c2)) ∧ Hid (Below w.heap.size w wr)) (fun i _ => (intOf i).toNat)
      case atStart => exact ⟨ps.length, hn1, Nat.le_refl _, rfl, Lib.hid (by rw [Nat.sub_self]; exact O5.out), T5, B5⟩
      case round =>
        obtain ⟨k, hk1, hk, rfl, HO, HT, HB⟩ := hrel
        obtain ⟨x0, x1⟩ := HT.out.cells
        clear T5 B5 O5
        by_cases hk2 : k = 1
        · subst hk2
          have FIN : Hid (NewInts (upL ps (valsT ps ws vs) (ps.length - 1)) w (.returned (.slice (some ⟨g1, 0, none⟩) ps.length ps.length)) wr) := Lib.hid ⟨_, rfl, by
            rw [← HVE.out]; exact HO.out.low (by omega), HB.out⟩
          clear HO
          go_wp2
          go_ret
          exact FIN.out
        · obtain ⟨x, rfl⟩ : ∃ x, k = x + 1 := ⟨k - 1, by omega⟩
          rw [show (((x + 1 : Nat) : Int) - 1) = (x : Int) by omega]
          have hx0 : 0 < x := by omega
          have hlt2 : x < ps.length := by omega
          obtain ⟨m, hm⟩ : ∃ m, m = ps.length - (x + 1) := ⟨_, rfl⟩
          rw [← hm] at HO
          have HM1 := Lib.hid (show m + 1 = ps.length - x by omega)
          obtain ⟨b, off, rfl, hb, hc⟩ := P1.out.get hlt2
          obtain ⟨q1, q2⟩ := HP.out x (by omega) hlt2
          obtain ⟨j, hj⟩ : ∃ j : Nat, ps.getD x 0 = (j : Int) := ⟨(ps.getD x 0).toNat, by omega⟩
          have hjx : j < x := by omega
          have LL : (upL ps VL m).length = ps.length := by rw [upL_len, LV.out]
          have RD : upL ps VL (m + 1) = (upL ps VL m).set j ((upL ps VL m).getD j 0 + (upL ps VL m).getD x 0) := by
            rw [upL, show ps.length - 1 - m = x by omega]; unfold addUp
            rw [if_neg (by omega), hj, show ((j : Int)).toNat = j by omega]
          have hdj := HO.out.cellGet (j := j) (by omega)
          have hdx := HO.out.cellGet (j := x) (by omega)
          have hfj := HO.out.frozenGet j
          obtain ⟨e1, e2⟩ := UB.out m (by omega) j (by omega)
          obtain ⟨e3, e4⟩ := UB.out m (by omega) x (by omega)
          obtain ⟨d1, hd1⟩ : ∃ d, d = (upL ps VL m).getD j 0 := ⟨_, rfl⟩
          obtain ⟨d2, hd2⟩ : ∃ d, d = (upL ps VL m).getD x 0 := ⟨_, rfl⟩
          have HCW := HB.out.cell (p := ⟨b, off + x, none⟩) hb
          rw [hc, hj] at HCW
          rw [← hd1] at hdj RD e1 e2
          rw [← hd2] at hdx RD e3 e4
          have O6 := Lib.hid (HO.out.setAt j (x := d1 + d2) (by unfold InI64; omega))
          rw [← RD] at O6
          have T6 := Lib.hid (HT.out.set (g := g1) (o := j) (x := .int .i64 (d1 + d2)) (by omega))
          have B6 := Lib.hid (HB.out.setCell (p := ⟨g1, j, none⟩) (by simp; omega) (.int .i64 (d1 + d2)))
          have i0 : (0 : Int) ≤ (x : Int) := by omega
          have i1 : (x : Int) < (ps.length : Int) := by omega
          have j0 : (0 : Int) ≤ (j : Int) := by omega
          have j1 : (j : Int) < (ps.length : Int) := by omega
          have x0' : (0 : Int) < (x : Int) := by omega
          clear hd1 hd2 RD hj q1 q2 hc LL hm HO HT HB
          go_wp2_with fail
          go_region
          go_wp2_with fail
          go_roundw
          case rel => exact ⟨x, by omega, by omega, rfl, Lib.hid (by have h := O6.out.below (below_drew (Below.refl _ _)); rw [HM1.out] at h; simpa [World.setCell] using h), Lib.hid (show TBox _ _ _ _ from T6.out), Lib.hid (below_drew B6.out)⟩
          case measure => simp [intOf]; first | done | omega
end Go.Proofs.Ytonlibncccljgaa
