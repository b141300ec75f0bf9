/- Claims that are met, in the model. -/
import Derived.Test.YtamneibnjbimeaaGapM
import Derived.Test.YtamneibnjbimeaaMeeI
namespace Go.Proofs.Ytamneibnjbimeaa
open Go.RowKit
set_option linter.unusedVariables false
set_option maxHeartbeats 4000000 in
theorem claimsM (ps ws cs ds : List Int) (v u : Value) (w : World) (mk : Mkt ps ws cs) (hn : cs.length ≤ 1048576) (hn1 : ds.length ≤ 1048576) (h : MktV w w.heap.size v ps ws cs) (hu : IntsV w w.heap.size u ds) :
    Calls Try.prog 52 #[v, u] w (Gives (.bool (clB ps ds)) w) := by
  have G := Lib.hid (fun w' (hb : Below w.heap.size w w') => mktS ps ws cs v w' hn (h.boxed hb))
  rw [goodM_iff.2 mk] at G
  have EN := Lib.hid (fun w' (v1 v2 v3 : Value) (hv : v = .agg #[v1, v2, v3]) (hb : Below w.heap.size w w') => endsS ps ws (.agg #[v1, v2]) w' ((show TreeV w w.heap.size (.agg #[v1, v2]) ps ws by (have h2 := h; rw [hv] at h2; exact h2.tree.1)).boxed hb) mk.good.n24 (parAll mk.good))
  have EL := ends_le ps
  have n24 := mk.good.n24
  obtain ⟨p1, c1, p2, c2, p3, c3, rfl⟩ := h.shape
  obtain ⟨q1, d1, rfl, _, _, _, j1⟩ := hu
  have Q1 := Lib.hid j1
  clear h j1 mk
  have D : Hid (clB ps ds = (decide (ds.length = (endsT ps).length) && withinB 99 ds)) := Lib.hid rfl
  have DW : Hid (decide (ds.length = (endsT ps).length) = ((ds.length : Int) == ((endsT ps).length : Int))) := Lib.hid (by rw [Bool.eq_iff_iff, decide_eq_true_iff, beq_iff_eq]; omega)
  rw [DW.out] at D
  clear DW
  obtain ⟨E, hE⟩ : ∃ E, E = endsT ps := ⟨_, rfl⟩
  rw [← hE] at EN EL D
  clear hE
  have B1 := Lib.hid ((Below.refl w.heap.size w).alloc (Nat.le_refl _) (.cells #[.slice p1 ps.length c1, .slice p2 ws.length c2, .slice p3 cs.length c3] 31))
  have T1 := Lib.hid (show KBox (w.alloc (.cells #[.slice p1 ps.length c1, .slice p2 ws.length c2, .slice p3 cs.length c3] 31)) w.heap.size (.slice p1 ps.length c1) (.slice p2 ws.length c2) (.slice p3 cs.length c3) from alloc_heap w _)
  obtain ⟨wa, hwa⟩ : ∃ wa, wa = w.alloc (.cells #[.slice p1 ps.length c1, .slice p2 ws.length c2, .slice p3 cs.length c3] 31) := ⟨_, rfl⟩
  rw [← hwa] at B1 T1
  go_enter Try.func52, Try.ntmps52
  go_wp2_with fail
  rw [← hwa]
  clear hwa
  go_loopw [5] (fun i wr => ∃ k : Nat, k ≤ ds.length ∧ i = .int .i64 k ∧ Hid (∀ j, j < k → -99 ≤ ds.getD j 0 ∧ ds.getD j 0 ≤ 99) ∧ ∃ n, wr = wa.drewN n) (fun i _ => ds.length - (intOf i).toNat)
  case atStart => exact ⟨0, Nat.zero_le _, rfl, Lib.hid (fun j hj => by omega), 0, rfl⟩
  case round =>
    obtain ⟨k, hk, rfl, HA, n, rfl⟩ := hrel
    by_cases hlt : k < ds.length
    · obtain ⟨b, off, rfl, hb, hc⟩ := Q1.out.get hlt
      have hcw : wa.cell? ⟨b, off + k, none⟩ = some (.int .i64 (ds.getD k 0)) := by rw [B1.out.cell (p := ⟨b, off + k, none⟩) hb]; exact hc
      have i0 : (0 : Int) ≤ (k : Int) := by omega
      have i1 : (k : Int) < (ds.length : Int) := by omega
      have NO := Lib.hid (within_no (m := 99) hlt)
      have NX : Hid (-99 ≤ ds.getD k 0 ∧ ds.getD k 0 ≤ 99 → ∀ j, j < k + 1 → -99 ≤ ds.getD j 0 ∧ ds.getD j 0 ≤ 99) := Lib.hid (fun h j hj => by
        rcases Nat.lt_or_ge j k with h' | h'
        · exact HA.out j h'
        · obtain rfl : j = k := by omega
          exact h)
      obtain ⟨z, hz⟩ : ∃ z, z = ds.getD k 0 := ⟨_, rfl⟩
      rw [← hz] at hcw NO NX
      clear hc hz HA
      by_cases hin : -99 ≤ z ∧ z ≤ 99
      · have I := Lib.hid (fun w => inS_true z (-99) 99 w hin)
        have N2 := Lib.hid (NX.out hin)
        clear NX NO hin
        go_wp2_with fail
        refine (I.out _).mono ?_
        rintro e w1 ⟨rfl, rfl⟩
        go_wp2_with fail
        go_roundw
        case rel => exact ⟨k + 1, by omega, by go_num, N2, _, rfl⟩
        case measure => simp [intOf]; omega
      · have I := Lib.hid (fun w => inS_false z (-99) 99 w hin)
        have N2 := Lib.hid (NO.out hin)
        clear NX NO hin
        go_wp2_with fail
        refine (I.out _).mono ?_
        rintro e w1 ⟨rfl, rfl⟩
        go_wp2_with fail
        go_ret
        exact ⟨ret_b (by rw [D.out, N2.out, Bool.and_false]), below_drewN B1.out n⟩
    · have WI : Hid (withinB 99 ds = true) := Lib.hid (within_yes (fun i hi => HA.out i (by omega)))
      have HBN : Hid (Below w.heap.size w (wa.drewN n)) := Lib.hid (below_drewN B1.out n)
      have TN : Hid (KBox (wa.drewN n) w.heap.size (.slice p1 ps.length c1) (.slice p2 ws.length c2) (.slice p3 cs.length c3)) := T1
      obtain ⟨wb, hwb⟩ : ∃ wb, wb = wa.drewN n := ⟨_, rfl⟩
      rw [← hwb] at HBN TN ⊢
      obtain ⟨x0, x1, x2⟩ := TN.out.cells
      clear hwb HA T1 B1
      go_wp2_with fail
      refine (G.out _ HBN.out).mono ?_
      rintro e w1 ⟨rfl, b1⟩
      have HB1 := Lib.hid (HBN.out.trans (b1.mono HBN.out.size))
      obtain ⟨y0, y1, y2⟩ := (TN.out.below b1 TN.out.lt).cells
      clear b1 x0 x1 x2
      go_wp2_with fail
      refine (EN.out _ _ _ _ rfl HB1.out).mono ?_
      rintro e w2 ⟨u, rfl, o2, b2⟩
      obtain ⟨g1, d2, rfl, _⟩ := o2.intsV
      have HB2 := Lib.hid (HB1.out.trans (b2.mono HB1.out.size))
      clear o2 b2
      go_wp2_with fail
      go_ret
      exact ⟨ret_b (by rw [D.out, WI.out, Bool.and_true]), HB2.out⟩
set_option maxRecDepth 100000 in
set_option maxHeartbeats 4000000 in
theorem covS (ps ws cs hs ds : List Int) (a : Int) (v u1 u2 : Value) (w : World) (hn : cs.length ≤ 1048576) (hn1 : hs.length ≤ 1048576) (hn2 : ds.length ≤ 1048576)
    (h : MktV w w.heap.size v ps ws cs) (hu : IntsV w w.heap.size u1 hs) (hv : IntsV w w.heap.size u2 ds) :
    Calls Try.prog 24 #[v, .int .i64 a, u1, u2] w (Gives (meetV (fun x y => decide (x ≥ y)) ps ws cs hs ds a) w) := by
  have HC := Lib.hid (fun w' (hb : Below w.heap.size w w') => holdsS ps ws cs hs a v u1 w' hn hn1 (h.boxed hb) ((hu.below hb).more hb.size))
  have CC := Lib.hid (fun (mk : Mkt ps ws cs) w' (hb : Below w.heap.size w w') => claimsM ps ws cs ds v u2 w' mk hn hn2 (h.boxed hb) ((hv.below hb).more hb.size))
  have GC := Lib.hid (fun (hd : Hold ps ws cs hs) (ha : -999 ≤ a ∧ a ≤ 999) (hl : ds.length = (endsT ps).length) (hb99 : ∀ i, i < ds.length → -99 ≤ ds.getD i 0 ∧ ds.getD i 0 ≤ 99) w' (hb : Below w.heap.size w w') => gapS ps ws cs hs ds (wlT ps cs hs a) a v u1 u2 w' hd ha rfl hl hb99 (h.boxed hb) ((hu.below hb).more hb.size) ((hv.below hb).more hb.size))
  obtain ⟨p1, c1, p2, c2, p3, c3, rfl⟩ := h.shape
  obtain ⟨q1, d1, rfl, _⟩ := hu
  obtain ⟨q2, d2, rfl, _⟩ := hv
  clear h
  have MV : Hid (meetV (fun x y => decide (x ≥ y)) ps ws cs hs ds a = if ((startB a && holdB ps ws cs hs) && clB ps ds) = true then .tuple #[.bool (meetA (fun x y => decide (x ≥ y)) (wlT ps cs hs a) (endsT ps) ds), .bool true] else .tuple #[.bool false, .bool false]) := Lib.hid rfl
  have B1 := Lib.hid ((Below.refl w.heap.size w).alloc (Nat.le_refl _) (.cells #[.slice p1 ps.length c1, .slice p2 ws.length c2, .slice p3 cs.length c3] 31))
  have T1 := Lib.hid (show KBox (w.alloc (.cells #[.slice p1 ps.length c1, .slice p2 ws.length c2, .slice p3 cs.length c3] 31)) w.heap.size (.slice p1 ps.length c1) (.slice p2 ws.length c2) (.slice p3 cs.length c3) from alloc_heap w _)
  obtain ⟨wa, hwa⟩ : ∃ wa, wa = w.alloc (.cells #[.slice p1 ps.length c1, .slice p2 ws.length c2, .slice p3 cs.length c3] 31) := ⟨_, rfl⟩
  rw [← hwa] at B1 T1
  obtain ⟨x0, x1, x2⟩ := T1.out.cells
  cases hk : (startB a && holdB ps ws cs hs)
  · rw [hk, Bool.false_and, if_neg (by decide)] at MV
    rw [hk] at HC
    rw [MV.out]
    clear hk MV CC GC
    go_enter Try.func24, Try.ntmps24
    go_wp2_with fail
    rw [← hwa]
    clear hwa
    refine (HC.out _ B1.out).mono ?_
    rintro e w1 ⟨rfl, b1⟩
    have HB1 := Lib.hid (B1.out.trans (b1.mono B1.out.size))
    clear b1
    go_wp2_with fail
    go_ret2
    exact ⟨rfl, HB1.out⟩
  · have hk2 := hk
    rw [Bool.and_eq_true] at hk2
    have HD := Lib.hid (holdB_iff.1 hk2.2)
    have CC2 := Lib.hid (CC.out HD.out.mkt)
    have GC2 := Lib.hid (GC.out HD.out (of_decide_eq_true hk2.1))
    rw [hk, Bool.true_and] at MV
    rw [hk] at HC
    clear hk hk2 CC GC
    cases hc : clB ps ds
    · rw [hc, if_neg (by decide)] at MV
      rw [hc] at CC2
      rw [MV.out]
      clear hc MV GC2 HD
      go_enter Try.func24, Try.ntmps24
      go_wp2_with fail
      rw [← hwa]
      clear hwa
      refine (HC.out _ B1.out).mono ?_
      rintro e w1 ⟨rfl, b1⟩
      have HB1 := Lib.hid (B1.out.trans (b1.mono B1.out.size))
      obtain ⟨y0, y1, y2⟩ := (T1.out.below b1 T1.out.lt).cells
      clear b1 x0 x1 x2
      go_wp2_with fail
      refine (CC2.out _ HB1.out).mono ?_
      rintro e w2 ⟨rfl, b2⟩
      have HB2 := Lib.hid (HB1.out.trans (b2.mono HB1.out.size))
      clear b2
      go_wp2_with fail
      go_ret2
      exact ⟨rfl, HB2.out⟩
    · have hc2 := hc
      unfold clB at hc2
      rw [Bool.and_eq_true, decide_eq_true_iff] at hc2
      have GC3 := Lib.hid (GC2.out hc2.1 (fun i hi => within_at hc2.2 hi))
      have YES := Lib.hid (fun h => meetA_yes (p := fun x y => decide (x ≥ y)) (T := wlT ps cs hs a) (E := endsT ps) (ds := ds) h)
      have NOP := Lib.hid (fun i hi h => meetA_no (p := fun x y => decide (x ≥ y)) (T := wlT ps cs hs a) (E := endsT ps) (ds := ds) (i := i) hi h)
      have GA := Lib.hid (fun i (hi : i < (endsT ps).length) => gapL_at (wlT ps cs hs a) (endsT ps) ds hi)
      have gl1 : (gapL (wlT ps cs hs a) (endsT ps) ds).length ≤ (endsT ps).length := Nat.le_of_eq (gapL_len _ _ _)
      have gl2 : (endsT ps).length ≤ (gapL (wlT ps cs hs a) (endsT ps) ds).length := Nat.le_of_eq (gapL_len _ _ _).symm
      have EP := ends_pos HD.out.mkt.good
      have el24 : (endsT ps).length ≤ 24 := by have := ends_le ps; have := HD.out.mkt.good.n24; omega
      rw [hc, if_pos rfl] at MV
      rw [hc] at CC2
      rw [MV.out]
      clear hc hc2 MV GC2 HD
      obtain ⟨T, hT⟩ : ∃ T, T = wlT ps cs hs a := ⟨_, rfl⟩
      rw [← hT] at GC3 YES NOP GA gl1 gl2 ⊢
      obtain ⟨E, hE⟩ : ∃ E, E = endsT ps := ⟨_, rfl⟩
      rw [← hE] at GC3 EP el24 YES NOP GA gl1 gl2 ⊢
      obtain ⟨ma, hma⟩ : ∃ m, m = meetA (fun x y => decide (x ≥ y)) T E ds := ⟨_, rfl⟩
      rw [← hma] at YES NOP ⊢
      obtain ⟨D, hD⟩ : ∃ D, D = gapL T E ds := ⟨_, rfl⟩
      rw [← hD] at GC3 GA gl1 gl2
      clear hT hE hma hD
      go_enter Try.func24, Try.ntmps24
      go_wp2_with fail
      rw [← hwa]
      clear hwa
      refine (HC.out _ B1.out).mono ?_
      rintro e w1 ⟨rfl, b1⟩
      have HB1 := Lib.hid (B1.out.trans (b1.mono B1.out.size))
      have U1 := Lib.hid (T1.out.below b1 T1.out.lt)
      obtain ⟨y0, y1, y2⟩ := U1.out.cells
      clear b1 x0 x1 x2
      go_wp2_with fail
      refine (CC2.out _ HB1.out).mono ?_
      rintro e w2 ⟨rfl, b2⟩
      have HB2 := Lib.hid (HB1.out.trans (b2.mono HB1.out.size))
      obtain ⟨t0, t1, t2⟩ := (U1.out.below b2 U1.out.lt).cells
      clear b2 y0 y1 y2
      go_wp2_with fail
      refine (GC3.out _ HB2.out).mono ?_
      rintro e w3 ⟨u, rfl, o3, b3⟩
      obtain ⟨gd, cd, rfl, hg1, hg2⟩ := o3.shape (by omega)
      have HB3 := Lib.hid (HB2.out.trans (b3.mono HB2.out.size))
      have DC := Lib.hid (fun i (hi : i < E.length) => o3.cellGet (j := i) (by omega))
      clear o3 b3 t0 t1 t2 HC CC2 GC3 U1 T1 B1 HB1 HB2 hg1 hg2
      go_wp2_with fail
      go_loopw [11] (fun i wr => ∃ k : Nat, k ≤ E.length ∧ i = .int .i64 k ∧ Hid (∀ i, i < k → (fun x y => decide (x ≥ y)) (T.getD (E.getD i 0).toNat 0) (ds.getD i 0) = true) ∧ ∃ n, wr = w3.drewN n) (fun i _ => E.length - (intOf i).toNat)
      case atStart => exact ⟨0, Nat.zero_le _, rfl, Lib.hid (fun j hj => by omega), 0, rfl⟩
      case round =>
        obtain ⟨k, hk, rfl, HA, n, rfl⟩ := hrel
        by_cases hlt : k < E.length
        · have hce := DC.out k hlt
          have ga := GA.out k hlt
          have NX : Hid ((fun x y => decide (x ≥ y)) (T.getD (E.getD k 0).toNat 0) (ds.getD k 0) = true → ∀ i, i < k + 1 → (fun x y => decide (x ≥ y)) (T.getD (E.getD i 0).toNat 0) (ds.getD i 0) = true) := Lib.hid (fun h i hi => by
            rcases Nat.lt_or_ge i k with h' | h'
            · exact HA.out i h'
            · obtain rfl : i = k := by omega
              exact h)
          have NO := Lib.hid (NOP.out k hlt)
          obtain ⟨x, hx⟩ : ∃ x, x = T.getD (E.getD k 0).toNat 0 := ⟨_, rfl⟩
          obtain ⟨y, hy⟩ : ∃ y, y = ds.getD k 0 := ⟨_, rfl⟩
          rw [← hx, ← hy] at ga NX NO
          rw [ga] at hce
          have i0 : (0 : Int) ≤ (k : Int) := by omega
          have i1 : (k : Int) < (E.length : Int) := by omega
          have i2 : (k : Int) < (D.length : Int) := by omega
          clear hx hy ga HA
          by_cases hb : x - y < 0
          · have R := Lib.hid (NO.out (by show decide (x ≥ y) = false; rw [decide_eq_false_iff_not]; omega))
            clear NX NO
            skip
            go_wp2_with fail
            go_ret2
            exact ⟨by rw [R.out]; rfl, below_drewN HB3.out n⟩
          · have N2 := Lib.hid (NX.out (by show decide (x ≥ y) = true; rw [decide_eq_true_iff]; omega))
            clear NX NO
            skip
            go_wp2_with fail
            go_roundw
            case rel => exact ⟨k + 1, by omega, by go_num, N2, _, rfl⟩
            case measure => simp [intOf]; omega
        · have R := Lib.hid (YES.out (fun i hi => HA.out i (by omega)))
          clear HA
          go_wp2_with fail
          go_ret2
          exact ⟨by rw [R.out]; rfl, below_drewN HB3.out n⟩
set_option maxRecDepth 100000 in
set_option maxHeartbeats 4000000 in
theorem matS (ps ws cs hs ds : List Int) (a : Int) (v u1 u2 : Value) (w : World) (hn : cs.length ≤ 1048576) (hn1 : hs.length ≤ 1048576) (hn2 : ds.length ≤ 1048576)
    (h : MktV w w.heap.size v ps ws cs) (hu : IntsV w w.heap.size u1 hs) (hv : IntsV w w.heap.size u2 ds) :
    Calls Try.prog 26 #[v, .int .i64 a, u1, u2] w (Gives (meetV (fun x y => x == y) ps ws cs hs ds a) w) := by
  have HC := Lib.hid (fun w' (hb : Below w.heap.size w w') => holdsS ps ws cs hs a v u1 w' hn hn1 (h.boxed hb) ((hu.below hb).more hb.size))
  have CC := Lib.hid (fun (mk : Mkt ps ws cs) w' (hb : Below w.heap.size w w') => claimsM ps ws cs ds v u2 w' mk hn hn2 (h.boxed hb) ((hv.below hb).more hb.size))
  have GC := Lib.hid (fun (hd : Hold ps ws cs hs) (ha : -999 ≤ a ∧ a ≤ 999) (hl : ds.length = (endsT ps).length) (hb99 : ∀ i, i < ds.length → -99 ≤ ds.getD i 0 ∧ ds.getD i 0 ≤ 99) w' (hb : Below w.heap.size w w') => gapS ps ws cs hs ds (wlT ps cs hs a) a v u1 u2 w' hd ha rfl hl hb99 (h.boxed hb) ((hu.below hb).more hb.size) ((hv.below hb).more hb.size))
  obtain ⟨p1, c1, p2, c2, p3, c3, rfl⟩ := h.shape
  obtain ⟨q1, d1, rfl, _⟩ := hu
  obtain ⟨q2, d2, rfl, _⟩ := hv
  clear h
  have MV : Hid (meetV (fun x y => x == y) ps ws cs hs ds a = if ((startB a && holdB ps ws cs hs) && clB ps ds) = true then .tuple #[.bool (meetA (fun x y => x == y) (wlT ps cs hs a) (endsT ps) ds), .bool true] else .tuple #[.bool false, .bool false]) := Lib.hid rfl
  have B1 := Lib.hid ((Below.refl w.heap.size w).alloc (Nat.le_refl _) (.cells #[.slice p1 ps.length c1, .slice p2 ws.length c2, .slice p3 cs.length c3] 31))
  have T1 := Lib.hid (show KBox (w.alloc (.cells #[.slice p1 ps.length c1, .slice p2 ws.length c2, .slice p3 cs.length c3] 31)) w.heap.size (.slice p1 ps.length c1) (.slice p2 ws.length c2) (.slice p3 cs.length c3) from alloc_heap w _)
  obtain ⟨wa, hwa⟩ : ∃ wa, wa = w.alloc (.cells #[.slice p1 ps.length c1, .slice p2 ws.length c2, .slice p3 cs.length c3] 31) := ⟨_, rfl⟩
  rw [← hwa] at B1 T1
  obtain ⟨x0, x1, x2⟩ := T1.out.cells
  cases hk : (startB a && holdB ps ws cs hs)
  · rw [hk, Bool.false_and, if_neg (by decide)] at MV
    rw [hk] at HC
    rw [MV.out]
    clear hk MV CC GC
    go_enter Try.func26, Try.ntmps26
    go_wp2_with fail
    rw [← hwa]
    clear hwa
    refine (HC.out _ B1.out).mono ?_
    rintro e w1 ⟨rfl, b1⟩
    have HB1 := Lib.hid (B1.out.trans (b1.mono B1.out.size))
    clear b1
    go_wp2_with fail
    go_ret2
    exact ⟨rfl, HB1.out⟩
  · have hk2 := hk
    rw [Bool.and_eq_true] at hk2
    have HD := Lib.hid (holdB_iff.1 hk2.2)
    have CC2 := Lib.hid (CC.out HD.out.mkt)
    have GC2 := Lib.hid (GC.out HD.out (of_decide_eq_true hk2.1))
    rw [hk, Bool.true_and] at MV
    rw [hk] at HC
    clear hk hk2 CC GC
    cases hc : clB ps ds
    · rw [hc, if_neg (by decide)] at MV
      rw [hc] at CC2
      rw [MV.out]
      clear hc MV GC2 HD
      go_enter Try.func26, Try.ntmps26
      go_wp2_with fail
      rw [← hwa]
      clear hwa
      refine (HC.out _ B1.out).mono ?_
      rintro e w1 ⟨rfl, b1⟩
      have HB1 := Lib.hid (B1.out.trans (b1.mono B1.out.size))
      obtain ⟨y0, y1, y2⟩ := (T1.out.below b1 T1.out.lt).cells
      clear b1 x0 x1 x2
      go_wp2_with fail
      refine (CC2.out _ HB1.out).mono ?_
      rintro e w2 ⟨rfl, b2⟩
      have HB2 := Lib.hid (HB1.out.trans (b2.mono HB1.out.size))
      clear b2
      go_wp2_with fail
      go_ret2
      exact ⟨rfl, HB2.out⟩
    · have hc2 := hc
      unfold clB at hc2
      rw [Bool.and_eq_true, decide_eq_true_iff] at hc2
      have GC3 := Lib.hid (GC2.out hc2.1 (fun i hi => within_at hc2.2 hi))
      have YES := Lib.hid (fun h => meetA_yes (p := fun x y => x == y) (T := wlT ps cs hs a) (E := endsT ps) (ds := ds) h)
      have NOP := Lib.hid (fun i hi h => meetA_no (p := fun x y => x == y) (T := wlT ps cs hs a) (E := endsT ps) (ds := ds) (i := i) hi h)
      have GA := Lib.hid (fun i (hi : i < (endsT ps).length) => gapL_at (wlT ps cs hs a) (endsT ps) ds hi)
      have gl1 : (gapL (wlT ps cs hs a) (endsT ps) ds).length ≤ (endsT ps).length := Nat.le_of_eq (gapL_len _ _ _)
      have gl2 : (endsT ps).length ≤ (gapL (wlT ps cs hs a) (endsT ps) ds).length := Nat.le_of_eq (gapL_len _ _ _).symm
      have EP := ends_pos HD.out.mkt.good
      have el24 : (endsT ps).length ≤ 24 := by have := ends_le ps; have := HD.out.mkt.good.n24; omega
      rw [hc, if_pos rfl] at MV
      rw [hc] at CC2
      rw [MV.out]
      clear hc hc2 MV GC2 HD
      obtain ⟨T, hT⟩ : ∃ T, T = wlT ps cs hs a := ⟨_, rfl⟩
      rw [← hT] at GC3 YES NOP GA gl1 gl2 ⊢
      obtain ⟨E, hE⟩ : ∃ E, E = endsT ps := ⟨_, rfl⟩
      rw [← hE] at GC3 EP el24 YES NOP GA gl1 gl2 ⊢
      obtain ⟨ma, hma⟩ : ∃ m, m = meetA (fun x y => x == y) T E ds := ⟨_, rfl⟩
      rw [← hma] at YES NOP ⊢
      obtain ⟨D, hD⟩ : ∃ D, D = gapL T E ds := ⟨_, rfl⟩
      rw [← hD] at GC3 GA gl1 gl2
      clear hT hE hma hD
      go_enter Try.func26, Try.ntmps26
      go_wp2_with fail
      rw [← hwa]
      clear hwa
      refine (HC.out _ B1.out).mono ?_
      rintro e w1 ⟨rfl, b1⟩
      have HB1 := Lib.hid (B1.out.trans (b1.mono B1.out.size))
      have U1 := Lib.hid (T1.out.below b1 T1.out.lt)
      obtain ⟨y0, y1, y2⟩ := U1.out.cells
      clear b1 x0 x1 x2
      go_wp2_with fail
      refine (CC2.out _ HB1.out).mono ?_
      rintro e w2 ⟨rfl, b2⟩
      have HB2 := Lib.hid (HB1.out.trans (b2.mono HB1.out.size))
      obtain ⟨t0, t1, t2⟩ := (U1.out.below b2 U1.out.lt).cells
      clear b2 y0 y1 y2
      go_wp2_with fail
      refine (GC3.out _ HB2.out).mono ?_
      rintro e w3 ⟨u, rfl, o3, b3⟩
      obtain ⟨gd, cd, rfl, hg1, hg2⟩ := o3.shape (by omega)
      have HB3 := Lib.hid (HB2.out.trans (b3.mono HB2.out.size))
      have DC := Lib.hid (fun i (hi : i < E.length) => o3.cellGet (j := i) (by omega))
      clear o3 b3 t0 t1 t2 HC CC2 GC3 U1 T1 B1 HB1 HB2 hg1 hg2
      go_wp2_with fail
      go_loopw [11] (fun i wr => ∃ k : Nat, k ≤ E.length ∧ i = .int .i64 k ∧ Hid (∀ i, i < k → (fun x y => x == y) (T.getD (E.getD i 0).toNat 0) (ds.getD i 0) = true) ∧ ∃ n, wr = w3.drewN n) (fun i _ => E.length - (intOf i).toNat)
      case atStart => exact ⟨0, Nat.zero_le _, rfl, Lib.hid (fun j hj => by omega), 0, rfl⟩
      case round =>
        obtain ⟨k, hk, rfl, HA, n, rfl⟩ := hrel
        by_cases hlt : k < E.length
        · have hce := DC.out k hlt
          have ga := GA.out k hlt
          have NX : Hid ((fun x y => x == y) (T.getD (E.getD k 0).toNat 0) (ds.getD k 0) = true → ∀ i, i < k + 1 → (fun x y => x == y) (T.getD (E.getD i 0).toNat 0) (ds.getD i 0) = true) := Lib.hid (fun h i hi => by
            rcases Nat.lt_or_ge i k with h' | h'
            · exact HA.out i h'
            · obtain rfl : i = k := by omega
              exact h)
          have NO := Lib.hid (NOP.out k hlt)
          obtain ⟨x, hx⟩ : ∃ x, x = T.getD (E.getD k 0).toNat 0 := ⟨_, rfl⟩
          obtain ⟨y, hy⟩ : ∃ y, y = ds.getD k 0 := ⟨_, rfl⟩
          rw [← hx, ← hy] at ga NX NO
          rw [ga] at hce
          have i0 : (0 : Int) ≤ (k : Int) := by omega
          have i1 : (k : Int) < (E.length : Int) := by omega
          have i2 : (k : Int) < (D.length : Int) := by omega
          clear hx hy ga HA
          by_cases hb : ¬ x - y = 0
          · have R := Lib.hid (NO.out (by show (x == y) = false; rw [beq_eq_false_iff_ne]; omega))
            clear NX NO
            have hb' : (x - y != 0) = true := by simpa using hb
            go_wp2_with fail
            go_ret2
            exact ⟨by rw [R.out]; rfl, below_drewN HB3.out n⟩
          · have N2 := Lib.hid (NX.out (by show (x == y) = true; rw [beq_iff_eq]; omega))
            clear NX NO
            have hb' : (x - y != 0) = false := by simpa using hb
            go_wp2_with fail
            go_roundw
            case rel => exact ⟨k + 1, by omega, by go_num, N2, _, rfl⟩
            case measure => simp [intOf]; omega
        · have R := Lib.hid (YES.out (fun i hi => HA.out i (by omega)))
          clear HA
          go_wp2_with fail
          go_ret2
          exact ⟨by rw [R.out]; rfl, below_drewN HB3.out n⟩
end Go.Proofs.Ytamneibnjbimeaa
