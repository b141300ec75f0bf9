/- StopAt in the program and in the model. -/
import Derived.Test.YtbpelmpipkkonabStopI
import Derived.Test.YtbpelmpipkkonabStopM
import Derived.Test.YtbpelmpipkkonabNode
namespace Go.Proofs.Ytbpelmpipkkonab
open Go.RowKit
set_option linter.unusedVariables false
theorem nodeB_yes {ps ws : List Int} {x : Int} (h : nodeB ps ws x = true) : Good ps ws ∧ 0 ≤ x ∧ x < (ps.length : Int) := by
  unfold nodeB at h
  rw [Bool.and_eq_true, decide_eq_true_eq] at h
  exact ⟨Good.of h.1, h.2.1, h.2.2⟩
/-- Whether there is an end and a stopping. -/
def atB (ps ws ss : List Int) (e : Int) : Bool := nodeB ps ws e && (stopB ps ws ss && leafB ps e.toNat)
def atV (ps ws ss : List Int) (e : Int) : Value := if atB ps ws ss e = true then .tuple #[.int .i64 ((nodT ps ss).getD e.toNat 0), .bool true] else .tuple #[.int .i64 0, .bool false]
theorem atV_form (ps ws ss : List Int) (e : Int) : ∃ rx ok, atV ps ws ss e = .tuple #[.int .i64 rx, .bool ok] := by
  unfold atV
  split
  · exact ⟨_, _, rfl⟩
  · exact ⟨_, _, rfl⟩
theorem atV_no {ps ws ss : List Int} {e : Int} (h : atB ps ws ss e = false) : atV ps ws ss e = .tuple #[.int .i64 0, .bool false] := by unfold atV; rw [h]; rfl
theorem isEndL {ps ws : List Int} {v : Value} {x : Nat} {w : World} (gd : Good ps ws) (hx : x < ps.length) (h : TreeV w w.heap.size v ps ws) : Calls Try.prog 64 #[v, .int .i64 x] w (Gives (.bool (leafB ps x)) w) := by
  have := isEndI ps ws v x w (by rw [gd.nw]; exact hx) h
  rwa [show decide (0 < ws.getD x 0) = leafB ps x by rw [Bool.eq_iff_iff, decide_eq_true_iff]; exact gd.end_iff hx] at this
set_option maxHeartbeats 2000000 in
theorem stopAtI (ps ws ss : List Int) (v u : Value) (e : Int) (w : World) (hl : ss.length ≤ 1048576) (h : TreeV w w.heap.size v ps ws) (hu : IntsV w w.heap.size u ss) :
    Calls Try.prog 21 #[v, u, .int .i64 e] w (Gives (atV ps ws ss e) w) := by
  have SN := Lib.hid (fun w' (hb : Below w.heap.size w w') => stopNodesI ps ws ss v u w' hl (h.boxed hb) ((hu.below hb).more hb.size))
  have IN := Lib.hid (fun w' (hb : Below w.heap.size w w') => isNodeI ps ws v e w' (h.boxed hb))
  have IE := Lib.hid (fun (gd : Good ps ws) (x : Nat) (hx : x < ps.length) w' (hb : Below w.heap.size w w') => isEndL gd hx (h.boxed hb))
  obtain ⟨p1, c1, p2, c2, rfl⟩ := h.shape
  obtain ⟨q, cq, rfl, _⟩ := hu
  clear h
  have B1 := Lib.hid ((Below.refl w.heap.size w).alloc (Nat.le_refl _) (.cells #[.slice p1 ps.length c1, .slice p2 ws.length c2] 28))
  have T1 := Lib.hid (show TBox (w.alloc (.cells #[.slice p1 ps.length c1, .slice p2 ws.length c2] 28)) w.heap.size (.slice p1 ps.length c1) (.slice p2 ws.length c2) from alloc_heap w _)
  obtain ⟨x0, x1⟩ := T1.out.cells
  obtain ⟨wa, hwa⟩ : ∃ wa, wa = w.alloc (.cells #[.slice p1 ps.length c1, .slice p2 ws.length c2] 28) := ⟨_, rfl⟩
  rw [← hwa] at B1 T1
  have D : Hid (atB ps ws ss e = (nodeB ps ws e && (stopB ps ws ss && leafB ps e.toNat))) := Lib.hid rfl
  have NO := Lib.hid (atV_no (ps := ps) (ws := ws) (ss := ss) (e := e))
  cases hs : stopB ps ws ss
  · have R := Lib.hid (NO.out (by rw [D.out, hs, Bool.false_and, Bool.and_false]))
    rw [hs] at SN
    clear hs D NO
    go_enter Try.func21, Try.ntmps21
    go_wp2_with fail
    rw [← hwa]
    clear hwa x0 x1
    refine (SN.out _ B1.out).mono ?_
    rintro e w1 ⟨u1, rfl, o1, b1⟩
    have HB1 := Lib.hid (B1.out.trans (b1.mono B1.out.size))
    clear b1 o1
    go_wp2_with fail
    go_ret2
    rw [R.out]
    exact ⟨rfl, HB1.out⟩
  · have IS : Hid (ifStop ps ws ss (nodT ps ss) = nodT ps ss) := Lib.hid (by unfold ifStop; rw [hs]; rfl)
    have gd := (stopB_iff.1 hs).good
    rw [hs, IS.out] at SN
    cases hnn : nodeB ps ws e
    · have R := Lib.hid (NO.out (by rw [D.out, hnn, Bool.false_and]))
      rw [hnn] at IN
      clear hs D NO hnn gd
      go_enter Try.func21, Try.ntmps21
      go_wp2_with fail
      rw [← hwa]
      clear hwa x0 x1
      refine (SN.out _ B1.out).mono ?_
      rintro e w1 ⟨u1, rfl, o1, b1⟩
      have HB1 := Lib.hid (B1.out.trans (b1.mono B1.out.size))
      obtain ⟨y0, y1⟩ := (T1.out.below b1 T1.out.lt).cells
      clear b1 o1
      go_wp2_with fail
      refine (IN.out _ HB1.out).mono ?_
      rintro e w2 ⟨rfl, b2⟩
      have HB2 := Lib.hid (HB1.out.trans (b2.mono HB1.out.size))
      clear b2
      go_wp2_with fail
      go_ret2
      rw [R.out]
      exact ⟨rfl, HB2.out⟩
    · obtain ⟨_, hx0, hx1⟩ := nodeB_yes hnn
      obtain ⟨x, rfl⟩ : ∃ x : Nat, e = (x : Int) := ⟨e.toNat, by omega⟩
      have hx : x < ps.length := by omega
      have IE2 := Lib.hid (IE.out gd x hx)
      have NL : Hid ((nodT ps ss).length = ps.length) := Lib.hid (passT_len _ _ _)
      rw [Int.toNat_natCast] at D
      rw [hnn] at IN D
      rw [hs] at D
      cases hlf : leafB ps x
      · have R := Lib.hid (NO.out (by rw [D.out, hlf]; rfl))
        rw [hlf] at IE2
        clear hs D NO hnn gd hlf IE
        go_enter Try.func21, Try.ntmps21
        go_wp2_with fail
        rw [← hwa]
        clear hwa x0 x1
        refine (SN.out _ B1.out).mono ?_
        rintro e w1 ⟨u1, rfl, o1, b1⟩
        have HB1 := Lib.hid (B1.out.trans (b1.mono B1.out.size))
        have HT1 := Lib.hid (T1.out.below b1 T1.out.lt)
        obtain ⟨y0, y1⟩ := HT1.out.cells
        clear b1 o1
        go_wp2_with fail
        refine (IN.out _ HB1.out).mono ?_
        rintro e w2 ⟨rfl, b2⟩
        have HB2 := Lib.hid (HB1.out.trans (b2.mono HB1.out.size))
        obtain ⟨z0, z1⟩ := (HT1.out.below b2 HT1.out.lt).cells
        clear b2
        go_wp2_with fail
        refine (IE2.out _ HB2.out).mono ?_
        rintro e w3 ⟨rfl, b3⟩
        have HB3 := Lib.hid (HB2.out.trans (b3.mono HB2.out.size))
        clear b3
        go_wp2_with fail
        go_ret2
        rw [R.out]
        exact ⟨rfl, HB3.out⟩
      · have R : Hid (atV ps ws ss (x : Int) = .tuple #[.int .i64 ((nodT ps ss).getD x 0), .bool true]) := Lib.hid (by
          unfold atV
          rw [D.out, hlf, Int.toNat_natCast]; rfl)
        rw [hlf] at IE2
        clear hs D NO hnn gd hlf IE
        go_enter Try.func21, Try.ntmps21
        go_wp2_with fail
        rw [← hwa]
        clear hwa x0 x1
        refine (SN.out _ B1.out).mono ?_
        rintro e w1 ⟨u1, rfl, o1, b1⟩
        have nlen := NL.out
        obtain ⟨gb, cb, rfl, hg1, hg2⟩ := o1.shape (by omega)
        have hcx := o1.cellGet (j := x) (by omega)
        have HB1 := Lib.hid (B1.out.trans (b1.mono B1.out.size))
        have HT1 := Lib.hid (T1.out.below b1 T1.out.lt)
        obtain ⟨y0, y1⟩ := HT1.out.cells
        have hx2 : (x : Int) < ((nodT ps ss).length : Int) := by omega
        obtain ⟨y, hy⟩ : ∃ y, y = (nodT ps ss).getD x 0 := ⟨_, rfl⟩
        rw [← hy] at hcx R
        obtain ⟨nl, hnl⟩ : ∃ nl, nl = (nodT ps ss).length := ⟨_, rfl⟩
        rw [← hnl] at hx2 ⊢
        clear b1 o1 hy hnl nlen
        go_wp2_with fail
        refine (IN.out _ HB1.out).mono ?_
        rintro e w2 ⟨rfl, b2⟩
        have HB2 := Lib.hid (HB1.out.trans (b2.mono HB1.out.size))
        obtain ⟨z0, z1⟩ := (HT1.out.below b2 HT1.out.lt).cells
        have hcx2 := (b2.cell (p := ⟨gb, x, none⟩) hg2).trans hcx
        have hg3 := Nat.lt_of_lt_of_le hg2 b2.size
        clear b2
        go_wp2_with fail
        refine (IE2.out _ HB2.out).mono ?_
        rintro e w3 ⟨rfl, b3⟩
        have HB3 := Lib.hid (HB2.out.trans (b3.mono HB2.out.size))
        have hcx3 := (b3.cell (p := ⟨gb, x, none⟩) hg3).trans hcx2
        clear b3
        go_wp2_with fail
        go_ret2
        rw [R.out]
        exact ⟨rfl, HB3.out⟩
set_option maxHeartbeats 2000000 in
theorem stopAtM (ps ws ss : List Int) (v u : Value) (e : Int) (w : World) (hl : ss.length ≤ 1048576) (h : TreeV w w.heap.size v ps ws) (hu : IntsV w w.heap.size u ss) :
    Calls Try.prog 20 #[v, u, .int .i64 e] w (Gives (atV ps ws ss e) w) := by
  have NS := Lib.hid (fun w' (hb : Below w.heap.size w w') => nodeS ps ws v e w' (h.boxed hb))
  have SS := Lib.hid (fun (gd : Good ps ws) w' (hb : Below w.heap.size w w') => stopS ps ws ss v u w' gd hl (h.boxed hb) ((hu.below hb).more hb.size))
  have ON := Lib.hid (fun (gd : Good ps ws) (x : Nat) (hx : x < ps.length) w' (hb : Below w.heap.size w w') => onS ps ws ss v u x w' gd hx hl (h.boxed hb) ((hu.below hb).more hb.size))
  obtain ⟨v1, v2, rfl, ⟨p1, c1, rfl, l1, m1, _, i1⟩, ⟨p2, c2, rfl, l2, m2, _, i2⟩⟩ := h
  have P2 := Lib.hid i2
  clear i1 i2 m1 m2
  obtain ⟨q, cq, rfl, _⟩ := hu
  have B1 := Lib.hid ((Below.refl w.heap.size w).alloc (Nat.le_refl _) (.cells #[.slice p1 ps.length c1, .slice p2 ws.length c2] 28))
  have T1 := Lib.hid (show TBox (w.alloc (.cells #[.slice p1 ps.length c1, .slice p2 ws.length c2] 28)) w.heap.size (.slice p1 ps.length c1) (.slice p2 ws.length c2) from alloc_heap w _)
  obtain ⟨x0, x1⟩ := T1.out.cells
  obtain ⟨wa, hwa⟩ : ∃ wa, wa = w.alloc (.cells #[.slice p1 ps.length c1, .slice p2 ws.length c2] 28) := ⟨_, rfl⟩
  rw [← hwa] at B1 T1
  have D : Hid (atB ps ws ss e = (nodeB ps ws e && (stopB ps ws ss && leafB ps e.toNat))) := Lib.hid rfl
  have NO := Lib.hid (atV_no (ps := ps) (ws := ws) (ss := ss) (e := e))
  cases hnn : nodeB ps ws e
  · have R := Lib.hid (NO.out (by rw [D.out, hnn, Bool.false_and]))
    rw [hnn] at NS
    clear D NO hnn
    go_enter Try.func20, Try.ntmps20
    go_wp2_with fail
    rw [← hwa]
    clear hwa x0 x1
    refine (NS.out _ B1.out).mono ?_
    rintro e w1 ⟨rfl, b1⟩
    have HB1 := Lib.hid (B1.out.trans (b1.mono B1.out.size))
    clear b1
    go_wp2_with fail
    go_ret2
    rw [R.out]
    exact ⟨rfl, HB1.out⟩
  · obtain ⟨gd, hx0, hx1⟩ := nodeB_yes hnn
    obtain ⟨x, rfl⟩ : ∃ x : Nat, e = (x : Int) := ⟨e.toNat, by omega⟩
    have hx : x < ps.length := by omega
    have S2 := Lib.hid (SS.out gd)
    have O2 := Lib.hid (ON.out gd x hx)
    rw [Int.toNat_natCast] at D
    rw [hnn] at NS D
    cases hs : stopB ps ws ss
    · have R := Lib.hid (NO.out (by rw [D.out, hs]; rfl))
      rw [hs] at S2
      clear hs D NO hnn gd SS ON
      go_enter Try.func20, Try.ntmps20
      go_wp2_with fail
      rw [← hwa]
      clear hwa x0 x1
      refine (NS.out _ B1.out).mono ?_
      rintro e w1 ⟨rfl, b1⟩
      have HB1 := Lib.hid (B1.out.trans (b1.mono B1.out.size))
      obtain ⟨y0, y1⟩ := (T1.out.below b1 T1.out.lt).cells
      clear b1
      go_wp2_with fail
      refine (S2.out _ HB1.out).mono ?_
      rintro e w2 ⟨rfl, b2⟩
      have HB2 := Lib.hid (HB1.out.trans (b2.mono HB1.out.size))
      clear b2
      go_wp2_with fail
      go_ret2
      rw [R.out]
      exact ⟨rfl, HB2.out⟩
    · have EI := gd.end_iff hx
      have WB := gd.w_bd hx
      have ST := stopB_iff.1 hs
      have hxw : x < ws.length := by rw [gd.nw]; exact hx
      obtain ⟨b, off, rfl, hb, hc⟩ := P2.out.get hxw
      have HC := Lib.hid hc
      have HBB := Lib.hid hb
      have hxw2 : (x : Int) < (ws.length : Int) := by omega
      have nx : ¬ (x : Int) < 0 := by omega
      rw [hs] at S2 D
      cases hlf : leafB ps x
      · have R := Lib.hid (NO.out (by rw [D.out, hlf]; rfl))
        have z0 : ws.getD x 0 = 0 := gd.inner x hx hlf
        rw [z0] at HC
        clear hs D NO hnn gd SS ON EI WB ST hlf hc z0
        go_enter Try.func20, Try.ntmps20
        go_wp2_with fail
        rw [← hwa]
        clear hwa x0 x1
        refine (NS.out _ B1.out).mono ?_
        rintro e w1 ⟨rfl, b1⟩
        have HB1 := Lib.hid (B1.out.trans (b1.mono B1.out.size))
        have HT1 := Lib.hid (T1.out.below b1 T1.out.lt)
        obtain ⟨y0, y1⟩ := HT1.out.cells
        clear b1
        go_wp2_with fail
        refine (S2.out _ HB1.out).mono ?_
        rintro e w2 ⟨rfl, b2⟩
        have HB2 := Lib.hid (HB1.out.trans (b2.mono HB1.out.size))
        obtain ⟨z0, z1⟩ := (HT1.out.below b2 HT1.out.lt).cells
        have hcw : w2.cell? ⟨b, off + x, none⟩ = some (.int .i64 0) := by rw [HB2.out.cell (p := ⟨b, off + x, none⟩) HBB.out]; exact HC.out
        clear b2
        go_wp2_with fail
        go_ret2
        rw [R.out]
        exact ⟨rfl, HB2.out⟩
      · have R : Hid (atV ps ws ss (x : Int) = .tuple #[.int .i64 ((nodT ps ss).getD x 0), .bool true]) := Lib.hid (by
          unfold atV
          rw [D.out, hlf, Int.toNat_natCast]; rfl)
        have z0 : 0 < ws.getD x 0 := EI.2 hlf
        obtain ⟨z, hz⟩ : ∃ z, z = ws.getD x 0 := ⟨_, rfl⟩
        rw [← hz] at HC z0 WB
        have zb : (z == 0) = false := by simp; omega
        have OW := (ST.end_ hx hlf).1
        rw [OW] at O2
        obtain ⟨y, hy⟩ : ∃ y, y = (nodT ps ss).getD x 0 := ⟨_, rfl⟩
        rw [← hy] at O2 R
        clear hs D NO hnn gd SS ON EI ST hlf hc hz hy OW
        go_enter Try.func20, Try.ntmps20
        go_wp2_with fail
        rw [← hwa]
        clear hwa x0 x1
        refine (NS.out _ B1.out).mono ?_
        rintro e w1 ⟨rfl, b1⟩
        have HB1 := Lib.hid (B1.out.trans (b1.mono B1.out.size))
        have HT1 := Lib.hid (T1.out.below b1 T1.out.lt)
        obtain ⟨y0, y1⟩ := HT1.out.cells
        clear b1
        go_wp2_with fail
        refine (S2.out _ HB1.out).mono ?_
        rintro e w2 ⟨rfl, b2⟩
        have HB2 := Lib.hid (HB1.out.trans (b2.mono HB1.out.size))
        obtain ⟨z2, z1⟩ := (HT1.out.below b2 HT1.out.lt).cells
        have hcw : w2.cell? ⟨b, off + x, none⟩ = some (.int .i64 z) := by rw [HB2.out.cell (p := ⟨b, off + x, none⟩) HBB.out]; exact HC.out
        clear b2
        go_wp2_with fail
        refine (O2.out _ HB2.out).mono ?_
        rintro e w3 ⟨u3, rfl, o3, b3⟩
        obtain ⟨gb, cb, rfl, hg1, hg2⟩ := o3.shape (by simp)
        have hcx := o3.cellGet (j := 0) (by simp)
        simp only [List.getD_cons_zero] at hcx
        have HB3 := Lib.hid (HB2.out.trans (b3.mono HB2.out.size))
        clear b3 o3
        go_wp2_with fail
        go_ret2
        rw [R.out]
        exact ⟨rfl, HB3.out⟩
end Go.Proofs.Ytbpelmpipkkonab
