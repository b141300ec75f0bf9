/- Claims that are met, in the program. -/
import Derived.Test.YtamneibnjbimeaaWthI
import Derived.Test.YtamneibnjbimeaaEndsL
import Derived.Deep.RegionHeld3
namespace Go.Proofs.Ytamneibnjbimeaa
open Go.RowKit
set_option linter.unusedVariables false
def clB (ps ds : List Int) : Bool := decide (ds.length = (endsT ps).length) && withinB 99 ds
/-- Each end meets its claim. -/
def meetA (p : Int → Int → Bool) (T E ds : List Int) : Bool := (List.range E.length).all fun i => p (T.getD (E.getD i 0).toNat 0) (ds.getD i 0)
theorem meetA_yes {p : Int → Int → Bool} {T E ds : List Int} (h : ∀ i, i < E.length → p (T.getD (E.getD i 0).toNat 0) (ds.getD i 0) = true) : meetA p T E ds = true := by
  unfold meetA
  rw [List.all_eq_true]
  intro i hi
  exact h i (List.mem_range.1 hi)
theorem meetA_no {p : Int → Int → Bool} {T E ds : List Int} {i : Nat} (hi : i < E.length) (h : p (T.getD (E.getD i 0).toNat 0) (ds.getD i 0) = false) : meetA p T E ds = false := by
  cases hb : meetA p T E ds
  · rfl
  · unfold meetA at hb
    rw [List.all_eq_true] at hb
    have := hb i (List.mem_range.2 hi)
    rw [h] at this; cases this
def meetV (p : Int → Int → Bool) (ps ws cs hs ds : List Int) (a : Int) : Value := if ((startB a && holdB ps ws cs hs) && clB ps ds) = true then .tuple #[.bool (meetA p (wlT ps cs hs a) (endsT ps) ds), .bool true] else .tuple #[.bool false, .bool false]
theorem meetV_form (p : Int → Int → Bool) (ps ws cs hs ds : List Int) (a : Int) : ∃ rx ok, meetV p ps ws cs hs ds a = .tuple #[.bool rx, .bool ok] := by
  unfold meetV; split <;> exact ⟨_, _, rfl⟩
set_option maxHeartbeats 2000000 in
theorem claimsC (ps ws cs ds : List Int) (v u : Value) (w : World) (gd : Good ps ws) (hn : ds.length ≤ 1048576) (h : MktV w w.heap.size v ps ws cs) (hu : IntsV w w.heap.size u ds) :
    Calls Try.prog 80 #[v, u] w (Gives (.bool (clB ps ds)) w) := by
  have WI := Lib.hid (fun w' (hb : Below w.heap.size w w') => withinI ds u ((endsT ps).length : Int) 99 w' (by omega) hn ((hu.below hb).more hb.size))
  have DW : Hid (decide ((ds.length : Int) = ((endsT ps).length : Int)) = decide (ds.length = (endsT ps).length)) := Lib.hid (by rw [Bool.eq_iff_iff, decide_eq_true_iff, decide_eq_true_iff]; omega)
  have D : Hid (clB ps ds = (decide (ds.length = (endsT ps).length) && withinB 99 ds)) := Lib.hid rfl
  rw [DW.out, ← D.out] at WI
  clear D DW
  have EN := Lib.hid (fun w' (v1 v2 v3 : Value) (hv : v = .agg #[v1, v2, v3]) (hb : Below w.heap.size w w') => endsI ps ws (.agg #[v1, v2]) w' ((show TreeV w w.heap.size (.agg #[v1, v2]) ps ws by (have h2 := h; rw [hv] at h2; exact h2.tree.1)).boxed hb))
  have hg : goodT ps ws = true := (goodT_iff _ _).2 gd
  rw [hg, show ifGood ps ws (endsT ps) = endsT ps by unfold ifGood; rw [hg]; rfl] at EN
  obtain ⟨p1, c1, p2, c2, p3, c3, rfl⟩ := h.shape
  obtain ⟨q, d, rfl, _⟩ := hu
  clear h hg gd
  obtain ⟨E, hE⟩ : ∃ E, E = endsT ps := ⟨_, rfl⟩
  rw [← hE] at EN WI
  clear hE
  generalize clB ps ds = bb at *
  have B1 := Lib.hid ((Below.refl w.heap.size w).alloc (Nat.le_refl _) (.cells #[.slice p1 ps.length c1, .slice p2 ws.length c2, .slice p3 cs.length c3] 31))
  have T1 := Lib.hid (show KBox (w.alloc (.cells #[.slice p1 ps.length c1, .slice p2 ws.length c2, .slice p3 cs.length c3] 31)) w.heap.size (.slice p1 ps.length c1) (.slice p2 ws.length c2) (.slice p3 cs.length c3) from alloc_heap w _)
  obtain ⟨x0, x1, x2⟩ := T1.out.cells
  go_enter Try.func80, Try.ntmps80
  go_wp2_with fail
  refine (EN.out _ _ _ _ rfl B1.out).mono ?_
  rintro e w1 ⟨u1, rfl, o1, b1⟩
  obtain ⟨g1, d1, rfl, _⟩ := o1.intsV
  have HB1 := Lib.hid (B1.out.trans (b1.mono B1.out.size))
  clear o1 b1
  go_wp2_with fail
  refine (WI.out _ HB1.out).mono ?_
  rintro e w2 ⟨rfl, b2⟩
  have HB2 := Lib.hid (HB1.out.trans (b2.mono HB1.out.size))
  clear b2
  go_wp2_with fail
  go_ret
  exact ⟨rfl, HB2.out⟩
def MeetF (g : Nat) (p : Int → Int → Bool) : Prop := ∀ (W : World) (x y : Int), Calls Try.prog g #[.int .i64 x, .int .i64 y] W (Gives (.bool (p x y)) W)
set_option maxRecDepth 100000 in
set_option maxHeartbeats 4000000 in
theorem meetI (p : Int → Int → Bool) (ps ws cs hs ds : List Int) (a : Int) (v u1 u2 : Value) (g : Nat) (w : World) (eg : ∀ args w, (callFunc g args).run Try.prog w = .ok (.enter g args) w) (hn : cs.length ≤ 1048576) (hn1 : hs.length ≤ 1048576) (hn2 : ds.length ≤ 1048576)
    (h : MktV w w.heap.size v ps ws cs) (hu : IntsV w w.heap.size u1 hs) (hv : IntsV w w.heap.size u2 ds) (hf : MeetF g p) :
    Calls Try.prog 54 #[v, .int .i64 a, u1, u2, .func (.func g) #[] #[]] w (Gives (meetV p ps ws cs hs ds a) w) := by
  have WC := Lib.hid (fun w' (hb : Below w.heap.size w w') => wealthI ps ws cs hs a v u1 w' hn hn1 (h.boxed hb) ((hu.below hb).more hb.size))
  have CC := Lib.hid (fun (gd : Good ps ws) w' (hb : Below w.heap.size w w') => claimsC ps ws cs ds v u2 w' gd hn2 (h.boxed hb) ((hv.below hb).more hb.size))
  have EN := Lib.hid (fun w' (v1 v2 v3 : Value) (hv : v = .agg #[v1, v2, v3]) (hb : Below w.heap.size w w') => endsI ps ws (.agg #[v1, v2]) w' ((show TreeV w w.heap.size (.agg #[v1, v2]) ps ws by (have h2 := h; rw [hv] at h2; exact h2.tree.1)).boxed hb))
  have MF := Lib.hid hf
  obtain ⟨p1, c1, p2, c2, p3, c3, rfl⟩ := h.shape
  obtain ⟨q1, d1, rfl, _⟩ := hu
  obtain ⟨q2, d2, rfl, _, _, _, j2⟩ := hv
  have Q2 := Lib.hid j2
  clear h j2 hf
  have MV : Hid (meetV p ps ws cs hs ds a = if ((startB a && holdB ps ws cs hs) && clB ps ds) = true then .tuple #[.bool (meetA p (wlT ps cs hs a) (endsT ps) ds), .bool true] else .tuple #[.bool false, .bool false]) := Lib.hid rfl
  have IS : Hid (ifHold ps ws cs hs a (wlT ps cs hs a) = if (startB a && holdB ps ws cs hs) = true then wlT ps cs hs a else []) := Lib.hid rfl
  have B1 := Lib.hid ((Below.refl w.heap.size w).alloc (Nat.le_refl _) (.cells #[.slice p1 ps.length c1, .slice p2 ws.length c2, .slice p3 cs.length c3] 31))
  have T1 := Lib.hid (show KBox (w.alloc (.cells #[.slice p1 ps.length c1, .slice p2 ws.length c2, .slice p3 cs.length c3] 31)) w.heap.size (.slice p1 ps.length c1) (.slice p2 ws.length c2) (.slice p3 cs.length c3) from alloc_heap w _)
  obtain ⟨wa, hwa⟩ : ∃ wa, wa = w.alloc (.cells #[.slice p1 ps.length c1, .slice p2 ws.length c2, .slice p3 cs.length c3] 31) := ⟨_, rfl⟩
  rw [← hwa] at B1 T1
  obtain ⟨x0, x1, x2⟩ := T1.out.cells
  cases hk : (startB a && holdB ps ws cs hs)
  · rw [hk, Bool.false_and, if_neg (by decide)] at MV
    rw [hk, if_neg (by decide)] at IS
    rw [hk, IS.out] at WC
    rw [MV.out]
    clear hk MV IS
    go_enter Try.func54, Try.ntmps54
    go_wp2_with fail
    rw [← hwa]
    clear hwa
    refine (WC.out _ B1.out).mono ?_
    rintro e w1 ⟨u, rfl, o1, b1⟩
    obtain ⟨gw, cw, rfl, _⟩ := o1.intsV
    have HB1 := Lib.hid (B1.out.trans (b1.mono B1.out.size))
    clear o1 b1
    go_wp2_with fail
    go_ret2
    exact ⟨rfl, HB1.out⟩
  · have hk2 := hk
    rw [Bool.and_eq_true] at hk2
    have HD := Lib.hid (holdB_iff.1 hk2.2)
    rw [hk, Bool.true_and] at MV
    rw [hk, if_pos rfl] at IS
    rw [hk, IS.out] at WC
    have CC2 := Lib.hid (CC.out HD.out.mkt.good)
    have hg : goodT ps ws = true := (goodT_iff _ _).2 HD.out.mkt.good
    rw [hg, show ifGood ps ws (endsT ps) = endsT ps by unfold ifGood; rw [hg]; rfl] at EN
    have TL1 : (wlT ps cs hs a).length ≤ ps.length := by rw [wlT_len]; exact Nat.le_refl _
    have TL2 : ps.length ≤ (wlT ps cs hs a).length := by rw [wlT_len]; exact Nat.le_refl _
    have n1 := HD.out.mkt.good.n1
    have n24 := HD.out.mkt.good.n24
    have EP := ends_pos HD.out.mkt.good
    have EL := ends_le ps
    have EI := Lib.hid (fun i (hi : i < (endsT ps).length) => ends_in (ps := ps) hi)
    clear hk hk2 IS CC hg
    cases hc : clB ps ds
    · rw [hc, if_neg (by decide)] at MV
      rw [hc] at CC2
      rw [MV.out]
      clear hc MV EI
      obtain ⟨T, hT⟩ : ∃ T, T = wlT ps cs hs a := ⟨_, rfl⟩
      rw [← hT] at WC TL1 TL2
      clear hT
      go_enter Try.func54, Try.ntmps54
      go_wp2_with fail
      rw [← hwa]
      clear hwa
      refine (WC.out _ B1.out).mono ?_
      rintro e w1 ⟨u, rfl, o1, b1⟩
      obtain ⟨gw, cw, rfl, _⟩ := o1.intsV
      have HB1 := Lib.hid (B1.out.trans (b1.mono B1.out.size))
      obtain ⟨y0, y1, y2⟩ := (T1.out.below b1 T1.out.lt).cells
      clear o1 b1 x0 x1 x2
      go_wp2_with fail
      refine (CC2.out _ HB1.out).mono ?_
      rintro e w2 ⟨rfl, b2⟩
      have HB2 := Lib.hid (HB1.out.trans (b2.mono HB1.out.size))
      clear b2
      go_wp2_with fail
      go_ret2
      exact ⟨rfl, HB2.out⟩
    · have hc2 := hc
      unfold clB at hc2
      rw [Bool.and_eq_true, decide_eq_true_iff] at hc2
      have dl1 : ds.length ≤ (endsT ps).length := Nat.le_of_eq hc2.1
      have dl2 : (endsT ps).length ≤ ds.length := Nat.le_of_eq hc2.1.symm
      have YES := Lib.hid (fun h => meetA_yes (p := p) (T := wlT ps cs hs a) (E := endsT ps) (ds := ds) h)
      have NOP := Lib.hid (fun i hi h => meetA_no (p := p) (T := wlT ps cs hs a) (E := endsT ps) (ds := ds) (i := i) hi h)
      rw [hc, if_pos rfl] at MV
      rw [hc] at CC2
      rw [MV.out]
      clear hc hc2 MV HD
      obtain ⟨T, hT⟩ : ∃ T, T = wlT ps cs hs a := ⟨_, rfl⟩
      rw [← hT] at WC TL1 TL2 YES NOP ⊢
      obtain ⟨E, hE⟩ : ∃ E, E = endsT ps := ⟨_, rfl⟩
      rw [← hE] at EN EP EL EI dl1 dl2 YES NOP ⊢
      obtain ⟨ma, hma⟩ : ∃ m, m = meetA p T E ds := ⟨_, rfl⟩
      rw [← hma] at YES NOP ⊢
      clear hT hE hma
      go_enter Try.func54, Try.ntmps54
      go_wp2_with fail
      rw [← hwa]
      clear hwa
      refine (WC.out _ B1.out).mono ?_
      rintro e w1 ⟨u, rfl, o1, b1⟩
      obtain ⟨gw, cw, rfl, hgw1, hgw2⟩ := o1.shape (by omega)
      have HB1 := Lib.hid (B1.out.trans (b1.mono B1.out.size))
      have U1 := Lib.hid (T1.out.below b1 T1.out.lt)
      have W1 := Lib.hid (fun w' (hb : Below w1.heap.size w1 w') i (hi : i < T.length) => (hb.cell (p := ⟨gw, i, none⟩) hgw2).trans (o1.cellGet hi))
      obtain ⟨y0, y1, y2⟩ := U1.out.cells
      clear o1 b1 x0 x1 x2
      go_wp2_with fail
      refine (CC2.out _ HB1.out).mono ?_
      rintro e w2 ⟨rfl, b2⟩
      have HB2 := Lib.hid (HB1.out.trans (b2.mono HB1.out.size))
      obtain ⟨t0, t1, t2⟩ := (U1.out.below b2 U1.out.lt).cells
      have C2 := Lib.hid b2
      clear b2 y0 y1 y2
      go_wp2_with fail
      refine (EN.out _ _ _ _ rfl HB2.out).mono ?_
      rintro e w3 ⟨u3, rfl, o3, b3⟩
      obtain ⟨ge, ce, rfl, hge1, hge2⟩ := o3.shape EP
      have HB3 := Lib.hid (HB2.out.trans (b3.mono HB2.out.size))
      have C3 := Lib.hid (C2.out.trans (b3.mono C2.out.size))
      have E3 := Lib.hid (fun w' (hb : Below w3.heap.size w3 w') i (hi : i < E.length) => (hb.cell (p := ⟨ge, i, none⟩) hge2).trans (o3.cellGet hi))
      have W3 := Lib.hid (fun w' (hb : Below w3.heap.size w3 w') i (hi : i < T.length) => W1.out w' (C3.out.trans (hb.mono C3.out.size)) i hi)
      clear o3 b3 t0 t1 t2 WC CC2 EN U1 T1 W1 C2 C3 HB1 HB2 B1 hgw1 hgw2 hge1 hge2
      go_wp2_with fail
      go_loopw [41] (fun i wr => ∃ k : Nat, k ≤ E.length ∧ i = .int .i64 k ∧ Hid (∀ j, j < k → p (T.getD (E.getD j 0).toNat 0) (ds.getD j 0) = true) ∧ Hid (Below w3.heap.size w3 wr)) (fun i _ => E.length - (intOf i).toNat)
      case atStart => exact ⟨0, Nat.zero_le _, rfl, Lib.hid (fun j hj => by omega), Lib.hid (Below.refl _ _)⟩
      case round =>
        obtain ⟨k, hk, rfl, HA, HW⟩ := hrel
        by_cases hlt : k < E.length
        · obtain ⟨j, hj, hjp, _⟩ := EI.out k hlt
          have hce : wr.cell? ⟨ge, k, none⟩ = some (.int .i64 j) := by rw [E3.out wr HW.out k hlt, hj]
          obtain ⟨bz, oz, rfl, hbz, hcz⟩ := Q2.out.get (i := k) (by omega)
          have hz : ∀ w', Below wr.heap.size wr w' → w'.cell? ⟨bz, oz + k, none⟩ = some (.int .i64 (ds.getD k 0)) := fun w' hb => by
            rw [hb.cell (p := ⟨bz, oz + k, none⟩) (by have := HB3.out.size; have := HW.out.size; show bz < _; omega), HW.out.cell (p := ⟨bz, oz + k, none⟩) (by have := HB3.out.size; show bz < _; omega), HB3.out.cell (p := ⟨bz, oz + k, none⟩) hbz]; exact hcz
          have hw : ∀ w', Below wr.heap.size wr w' → w'.cell? ⟨gw, j, none⟩ = some (.int .i64 (T.getD j 0)) := fun w' hb => W3.out w' (HW.out.trans (hb.mono HW.out.size)) j (by omega)
          have NX : Hid (p (T.getD j 0) (ds.getD k 0) = true → ∀ i, i < k + 1 → p (T.getD (E.getD i 0).toNat 0) (ds.getD i 0) = true) := Lib.hid (fun h i hi => by
            rcases Nat.lt_or_ge i k with h' | h'
            · exact HA.out i h'
            · obtain rfl : i = k := by omega
              rw [← hj, Int.toNat_natCast]; exact h)
          have NO : Hid (p (T.getD j 0) (ds.getD k 0) = false → ma = false) := Lib.hid (fun h => NOP.out k hlt (by rw [← hj, Int.toNat_natCast]; exact h))
          obtain ⟨x, hx⟩ : ∃ x, x = T.getD j 0 := ⟨_, rfl⟩
          obtain ⟨y, hy⟩ : ∃ y, y = ds.getD k 0 := ⟨_, rfl⟩
          rw [← hx] at hw NX NO
          rw [← hy] at hz NX NO
          have P := Lib.hid (fun W => MF.out W x y)
          have K8 : Hid (∀ w', Below wr.heap.size wr w' → w'.cell? ⟨gw, j, none⟩ = some (.int .i64 x) ∧ w'.cell? ⟨bz, oz + k, none⟩ = some (.int .i64 y) ∧ Below wr.heap.size wr w') := Lib.hid (fun w' hb => ⟨hw w' hb, hz w' hb, hb⟩)
          have i0 : (0 : Int) ≤ (k : Int) := by omega
          have i1 : (k : Int) < (E.length : Int) := by omega
          have i2 : (k : Int) < (ds.length : Int) := by omega
          have j0 : (0 : Int) ≤ (j : Int) := by omega
          have j1 : (j : Int) < (T.length : Int) := by omega
          clear hz hw hx hy hj hcz hbz
          obtain ⟨t, ht⟩ : ∃ t, t = p x y := ⟨_, rfl⟩
          rw [← ht] at P NX NO
          clear ht
          cases t
          · have R := Lib.hid (NO.out rfl)
            clear NX NO
            go_upto_region 8 with fail
            go_region_held3 (fun w' => w'.cell? ⟨gw, j, none⟩ = some (.int .i64 x) ∧ w'.cell? ⟨bz, oz + k, none⟩ = some (.int .i64 y) ∧ Below wr.heap.size wr w')
              (first | exact K8.out _ hb9 | exact K8.out _ (below_drew (Below.refl _ _)))
              (first | (go_at_fn g; (refine (P.out _).mono ?_); rintro e w9 ⟨rfl, b9⟩; (have hb9 := (below_drew (Below.refl wr.heap.size wr)).trans b9)))
            all_goals
              have HF := Lib.hid (HB3.out.trans ((HW.out.trans (hb9.mono HW.out.size)).mono HB3.out.size))
              clear hb9
              go_wp2_with fail
              go_ret2
              exact ⟨by rw [R.out]; rfl, HF.out⟩
          · have N2 := Lib.hid (NX.out rfl)
            clear NX NO
            go_upto_region 8 with fail
            go_region_held3 (fun w' => w'.cell? ⟨gw, j, none⟩ = some (.int .i64 x) ∧ w'.cell? ⟨bz, oz + k, none⟩ = some (.int .i64 y) ∧ Below wr.heap.size wr w')
              (first | exact K8.out _ hb9 | exact K8.out _ (below_drew (Below.refl _ _)))
              (first | (go_at_fn g; (refine (P.out _).mono ?_); rintro e w9 ⟨rfl, b9⟩; (have hb9 := (below_drew (Below.refl wr.heap.size wr)).trans b9)))
            all_goals
              have HF := Lib.hid (HW.out.trans (hb9.mono HW.out.size))
              clear hb9
              go_wp2_with fail
              go_roundw
              case rel => exact ⟨k + 1, by omega, by go_num, N2, HF⟩
              case measure => simp [intOf]; omega
        · have R := Lib.hid (YES.out (fun i hi => HA.out i (by omega)))
          have HF := Lib.hid (HB3.out.trans (HW.out.mono HB3.out.size))
          clear HA
          go_wp2_with fail
          go_ret2
          exact ⟨by rw [R.out]; rfl, HF.out⟩
theorem covCF : MeetF 55 (fun x y => decide (x ≥ y)) := by
  intro W x y
  go_enter Try.func55, Try.ntmps55
  go_wp2
  go_ret
  exact ⟨rfl, Below.refl _ _⟩
set_option maxHeartbeats 2000000 in
theorem covCI (ps ws cs hs ds : List Int) (a : Int) (v u1 u2 : Value) (w : World) (hn : cs.length ≤ 1048576) (hn1 : hs.length ≤ 1048576) (hn2 : ds.length ≤ 1048576)
    (h : MktV w w.heap.size v ps ws cs) (hu : IntsV w w.heap.size u1 hs) (hv : IntsV w w.heap.size u2 ds) :
    Calls Try.prog 25 #[v, .int .i64 a, u1, u2] w (Gives (meetV (fun x y => decide (x ≥ y)) ps ws cs hs ds a) w) := by
  have C := Lib.hid (fun w' (hb : Below w.heap.size w w') => meetI (fun x y => decide (x ≥ y)) ps ws cs hs ds a v u1 u2 55 w' (enters_of Try.func55 (by kernel_rfl) rfl) hn hn1 hn2 (h.boxed hb) ((hu.below hb).more hb.size) ((hv.below hb).more hb.size) covCF)
  obtain ⟨p1, c1, p2, c2, p3, c3, rfl⟩ := h.shape
  obtain ⟨q1, d1, rfl, _⟩ := hu
  obtain ⟨q2, d2, rfl, _⟩ := hv
  clear h
  obtain ⟨rx, ok, hK⟩ := meetV_form (fun x y => decide (x ≥ y)) ps ws cs hs ds a
  rw [hK] at C ⊢
  clear hK
  have B1 := Lib.hid ((Below.refl w.heap.size w).alloc (Nat.le_refl _) (.cells #[.slice p1 ps.length c1, .slice p2 ws.length c2, .slice p3 cs.length c3] 31))
  have T1 := Lib.hid (show KBox (w.alloc (.cells #[.slice p1 ps.length c1, .slice p2 ws.length c2, .slice p3 cs.length c3] 31)) w.heap.size (.slice p1 ps.length c1) (.slice p2 ws.length c2) (.slice p3 cs.length c3) from alloc_heap w _)
  obtain ⟨x0, x1, x2⟩ := T1.out.cells
  go_enter Try.func25, Try.ntmps25
  go_wp2_with fail
  refine (C.out _ B1.out).mono ?_
  rintro e w1 ⟨rfl, b1⟩
  have HB1 := Lib.hid (B1.out.trans (b1.mono B1.out.size))
  clear b1
  go_wp2_with fail
  go_ret2
  exact ⟨rfl, HB1.out⟩
theorem matCF : MeetF 56 (fun x y => x == y) := by
  intro W x y
  go_enter Try.func56, Try.ntmps56
  go_wp2
  go_ret
  exact ⟨rfl, Below.refl _ _⟩
set_option maxHeartbeats 2000000 in
theorem matCI (ps ws cs hs ds : List Int) (a : Int) (v u1 u2 : Value) (w : World) (hn : cs.length ≤ 1048576) (hn1 : hs.length ≤ 1048576) (hn2 : ds.length ≤ 1048576)
    (h : MktV w w.heap.size v ps ws cs) (hu : IntsV w w.heap.size u1 hs) (hv : IntsV w w.heap.size u2 ds) :
    Calls Try.prog 27 #[v, .int .i64 a, u1, u2] w (Gives (meetV (fun x y => x == y) ps ws cs hs ds a) w) := by
  have C := Lib.hid (fun w' (hb : Below w.heap.size w w') => meetI (fun x y => x == y) ps ws cs hs ds a v u1 u2 56 w' (enters_of Try.func56 (by kernel_rfl) rfl) hn hn1 hn2 (h.boxed hb) ((hu.below hb).more hb.size) ((hv.below hb).more hb.size) matCF)
  obtain ⟨p1, c1, p2, c2, p3, c3, rfl⟩ := h.shape
  obtain ⟨q1, d1, rfl, _⟩ := hu
  obtain ⟨q2, d2, rfl, _⟩ := hv
  clear h
  obtain ⟨rx, ok, hK⟩ := meetV_form (fun x y => x == y) ps ws cs hs ds a
  rw [hK] at C ⊢
  clear hK
  have B1 := Lib.hid ((Below.refl w.heap.size w).alloc (Nat.le_refl _) (.cells #[.slice p1 ps.length c1, .slice p2 ws.length c2, .slice p3 cs.length c3] 31))
  have T1 := Lib.hid (show KBox (w.alloc (.cells #[.slice p1 ps.length c1, .slice p2 ws.length c2, .slice p3 cs.length c3] 31)) w.heap.size (.slice p1 ps.length c1) (.slice p2 ws.length c2) (.slice p3 cs.length c3) from alloc_heap w _)
  obtain ⟨x0, x1, x2⟩ := T1.out.cells
  go_enter Try.func27, Try.ntmps27
  go_wp2_with fail
  refine (C.out _ B1.out).mono ?_
  rintro e w1 ⟨rfl, b1⟩
  have HB1 := Lib.hid (B1.out.trans (b1.mono B1.out.size))
  clear b1
  go_wp2_with fail
  go_ret2
  exact ⟨rfl, HB1.out⟩
end Go.Proofs.Ytamneibnjbimeaa
