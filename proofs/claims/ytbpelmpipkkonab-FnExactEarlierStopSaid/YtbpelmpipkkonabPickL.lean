/- EarlierStop and LaterStop, in the program and in the model. -/
import Derived.Test.YtbpelmpipkkonabPickM
import Derived.Test.YtbpelmpipkkonabGoodS
namespace Go.Proofs.Ytbpelmpipkkonab
open Go.RowKit
set_option linter.unusedVariables false
set_option maxRecDepth 100000 in
set_option maxHeartbeats 2000000 in
theorem earlyI2 (ps ws a b : List Int) (v u1 u2 : Value) (w : World) (hn1 : a.length ≤ 1048576) (hn2 : b.length ≤ 1048576) (h : TreeV w w.heap.size v ps ws) (hu : IntsV w w.heap.size u1 a) (hv : IntsV w w.heap.size u2 b) :
    Calls Try.prog 33 #[v, u1, u2] w (NewIntsB (ifTwo ps ws a b (pickT ps a b false)) (twoB ps ws a b) w) := by
  have C := Lib.hid (fun w' (hb : Below w.heap.size w w') => chooseI ps ws a b 83 false v u1 u2 w' (enters_of Try.func83 (by kernel_rfl) rfl) earlyI hn1 hn2 (h.boxed hb) ((hu.below hb).more hb.size) ((hv.below hb).more hb.size))
  obtain ⟨p1, c1, p2, c2, rfl⟩ := h.shape
  obtain ⟨q1, d1, rfl, _⟩ := hu
  obtain ⟨q2, d2, rfl, _⟩ := hv
  clear h
  have B1 := Lib.hid ((Below.refl w.heap.size w).alloc (Nat.le_refl _) (.cells #[.slice p1 ps.length c1, .slice p2 ws.length c2] 28))
  have T1 := Lib.hid (show TBox (w.alloc (.cells #[.slice p1 ps.length c1, .slice p2 ws.length c2] 28)) w.heap.size (.slice p1 ps.length c1) (.slice p2 ws.length c2) from alloc_heap w _)
  obtain ⟨x0, x1⟩ := T1.out.cells
  obtain ⟨wa, hwa⟩ : ∃ wa, wa = w.alloc (.cells #[.slice p1 ps.length c1, .slice p2 ws.length c2] 28) := ⟨_, rfl⟩
  rw [← hwa] at B1 T1
  generalize ifTwo ps ws a b (pickT ps a b false) = R at *
  generalize twoB ps ws a b = ok at *
  go_enter Try.func33, Try.ntmps33
  go_wp2_with fail
  rw [← hwa]
  clear hwa x0 x1
  refine (C.out _ B1.out).mono ?_
  rintro e w1 ⟨u, rfl, o1, b1⟩
  have FIN : Hid (NewIntsB R ok w (.returned (.tuple #[u, .bool ok])) w1) := Lib.hid ⟨_, rfl, o1.low B1.out.size, B1.out.trans (b1.mono B1.out.size)⟩
  clear o1 b1
  go_wp2_with fail
  go_ret2
  exact FIN.out
set_option maxRecDepth 100000 in
set_option maxHeartbeats 2000000 in
theorem earlyM2 (ps ws a b : List Int) (v u1 u2 : Value) (w : World) (hn1 : a.length ≤ 1048576) (hn2 : b.length ≤ 1048576) (h : TreeV w w.heap.size v ps ws) (hu : IntsV w w.heap.size u1 a) (hv : IntsV w w.heap.size u2 b) :
    Calls Try.prog 32 #[v, u1, u2] w (NewIntsB (ifTwo ps ws a b (pickT ps a b false)) (twoB ps ws a b) w) := by
  have G := Lib.hid (fun w' (hb : Below w.heap.size w w') => goodS ps ws v w' (h.boxed hb))
  have SA := Lib.hid (fun (gd : Good ps ws) w' (hb : Below w.heap.size w w') => stopS ps ws a v u1 w' gd hn1 (h.boxed hb) ((hu.below hb).more hb.size))
  have SB := Lib.hid (fun (gd : Good ps ws) w' (hb : Below w.heap.size w w') => stopS ps ws b v u2 w' gd hn2 (h.boxed hb) ((hv.below hb).more hb.size))
  have PK := Lib.hid (fun (sa : Stop ps ws a) (sb : Stop ps ws b) w' (hb : Below w.heap.size w w') => pickSp ps ws a b false v u1 u2 w' sa sb hn1 hn2 (h.boxed hb) ((hu.below hb).more hb.size) ((hv.below hb).more hb.size))
  obtain ⟨p1, c1, p2, c2, rfl⟩ := h.shape
  obtain ⟨q1, d1, rfl, _⟩ := hu
  obtain ⟨q2, d2, rfl, _⟩ := hv
  clear h
  have B1 := Lib.hid ((Below.refl w.heap.size w).alloc (Nat.le_refl _) (.cells #[.slice p1 ps.length c1, .slice p2 ws.length c2] 28))
  have T1 := Lib.hid (show TBox (w.alloc (.cells #[.slice p1 ps.length c1, .slice p2 ws.length c2] 28)) w.heap.size (.slice p1 ps.length c1) (.slice p2 ws.length c2) from alloc_heap w _)
  obtain ⟨x0, x1⟩ := T1.out.cells
  obtain ⟨wa, hwa⟩ : ∃ wa, wa = w.alloc (.cells #[.slice p1 ps.length c1, .slice p2 ws.length c2] 28) := ⟨_, rfl⟩
  rw [← hwa] at B1 T1
  have D : Hid (twoB ps ws a b = (stopB ps ws a && stopB ps ws b)) := Lib.hid rfl
  have NO : Hid (twoB ps ws a b = false → ifTwo ps ws a b (pickT ps a b false) = []) := Lib.hid (fun h => by unfold ifTwo; rw [h]; rfl)
  cases hg : goodT ps ws
  · have R := Lib.hid (show twoB ps ws a b = false by rw [D.out, show stopB ps ws a = false by unfold stopB; rw [hg]; rfl]; rfl)
    rw [hg] at G
    rw [NO.out R.out, R.out]
    clear hg SA SB PK
    go_enter Try.func32, Try.ntmps32
    go_wp2_with fail
    rw [← hwa]
    clear hwa x0 x1
    refine (G.out _ B1.out).mono ?_
    rintro e w1 ⟨rfl, b1⟩
    have HB1 := Lib.hid (B1.out.trans (b1.mono B1.out.size))
    clear b1
    go_wp2_with fail
    go_ret2
    exact newInts_empty HB1.out
  · have SA2 := Lib.hid (SA.out (Good.of hg))
    have SB2 := Lib.hid (SB.out (Good.of hg))
    rw [hg] at G
    clear hg SA SB
    cases hsa : stopB ps ws a
    · have R := Lib.hid (show twoB ps ws a b = false by rw [D.out, hsa]; rfl)
      rw [hsa] at SA2
      rw [NO.out R.out, R.out]
      clear hsa PK
      go_enter Try.func32, Try.ntmps32
      go_wp2_with fail
      rw [← hwa]
      clear hwa x0 x1
      refine (G.out _ B1.out).mono ?_
      rintro e w1 ⟨rfl, b1⟩
      have HB1 := Lib.hid (B1.out.trans (b1.mono B1.out.size))
      obtain ⟨y0, y1⟩ := (T1.out.below b1 T1.out.lt).cells
      clear b1
      go_wp2_with fail
      refine (SA2.out _ HB1.out).mono ?_
      rintro e w2 ⟨rfl, b2⟩
      have HB2 := Lib.hid (HB1.out.trans (b2.mono HB1.out.size))
      clear b2
      go_wp2_with fail
      go_ret2
      exact newInts_empty HB2.out
    · rw [hsa] at SA2
      cases hsb : stopB ps ws b
      · have R := Lib.hid (show twoB ps ws a b = false by rw [D.out, hsa, hsb]; rfl)
        rw [hsb] at SB2
        rw [NO.out R.out, R.out]
        clear hsa hsb PK
        go_enter Try.func32, Try.ntmps32
        go_wp2_with fail
        rw [← hwa]
        clear hwa x0 x1
        refine (G.out _ B1.out).mono ?_
        rintro e w1 ⟨rfl, b1⟩
        have HB1 := Lib.hid (B1.out.trans (b1.mono B1.out.size))
        have HT1 := Lib.hid (T1.out.below b1 T1.out.lt)
        obtain ⟨y0, y1⟩ := HT1.out.cells
        clear b1
        go_wp2_with fail
        refine (SA2.out _ HB1.out).mono ?_
        rintro e w2 ⟨rfl, b2⟩
        have HB2 := Lib.hid (HB1.out.trans (b2.mono HB1.out.size))
        obtain ⟨z0, z1⟩ := (HT1.out.below b2 HT1.out.lt).cells
        clear b2
        go_wp2_with fail
        refine (SB2.out _ HB2.out).mono ?_
        rintro e w3 ⟨rfl, b3⟩
        have HB3 := Lib.hid (HB2.out.trans (b3.mono HB2.out.size))
        clear b3
        go_wp2_with fail
        go_ret2
        exact newInts_empty HB3.out
      · have R := Lib.hid (show twoB ps ws a b = true by rw [D.out, hsa, hsb]; rfl)
        have IT : Hid (ifTwo ps ws a b (pickT ps a b false) = pickT ps a b false) := Lib.hid (by unfold ifTwo; rw [R.out]; rfl)
        have PK2 := Lib.hid (PK.out (stopB_iff.1 hsa) (stopB_iff.1 hsb))
        rw [hsb] at SB2
        rw [IT.out, R.out]
        clear hsa hsb PK
        go_enter Try.func32, Try.ntmps32
        go_wp2_with fail
        rw [← hwa]
        clear hwa x0 x1
        refine (G.out _ B1.out).mono ?_
        rintro e w1 ⟨rfl, b1⟩
        have HB1 := Lib.hid (B1.out.trans (b1.mono B1.out.size))
        have HT1 := Lib.hid (T1.out.below b1 T1.out.lt)
        obtain ⟨y0, y1⟩ := HT1.out.cells
        clear b1
        go_wp2_with fail
        refine (SA2.out _ HB1.out).mono ?_
        rintro e w2 ⟨rfl, b2⟩
        have HB2 := Lib.hid (HB1.out.trans (b2.mono HB1.out.size))
        have HT2 := Lib.hid (HT1.out.below b2 HT1.out.lt)
        obtain ⟨z0, z1⟩ := HT2.out.cells
        clear b2 y0 y1
        go_wp2_with fail
        refine (SB2.out _ HB2.out).mono ?_
        rintro e w3 ⟨rfl, b3⟩
        have HB3 := Lib.hid (HB2.out.trans (b3.mono HB2.out.size))
        obtain ⟨y0, y1⟩ := (HT2.out.below b3 HT2.out.lt).cells
        clear b3 z0 z1
        go_wp2_with fail
        refine (PK2.out _ HB3.out).mono ?_
        rintro e w4 ⟨u, rfl, o4, b4⟩
        have FIN := Lib.hid (newInts_back HB3.out o4 b4)
        clear o4 b4
        go_wp2_with fail
        go_ret2
        exact FIN.out
set_option maxRecDepth 100000 in
set_option maxHeartbeats 2000000 in
theorem lateI2 (ps ws a b : List Int) (v u1 u2 : Value) (w : World) (hn1 : a.length ≤ 1048576) (hn2 : b.length ≤ 1048576) (h : TreeV w w.heap.size v ps ws) (hu : IntsV w w.heap.size u1 a) (hv : IntsV w w.heap.size u2 b) :
    Calls Try.prog 35 #[v, u1, u2] w (NewIntsB (ifTwo ps ws a b (pickT ps a b true)) (twoB ps ws a b) w) := by
  have C := Lib.hid (fun w' (hb : Below w.heap.size w w') => chooseI ps ws a b 84 true v u1 u2 w' (enters_of Try.func84 (by kernel_rfl) rfl) lateI hn1 hn2 (h.boxed hb) ((hu.below hb).more hb.size) ((hv.below hb).more hb.size))
  obtain ⟨p1, c1, p2, c2, rfl⟩ := h.shape
  obtain ⟨q1, d1, rfl, _⟩ := hu
  obtain ⟨q2, d2, rfl, _⟩ := hv
  clear h
  have B1 := Lib.hid ((Below.refl w.heap.size w).alloc (Nat.le_refl _) (.cells #[.slice p1 ps.length c1, .slice p2 ws.length c2] 28))
  have T1 := Lib.hid (show TBox (w.alloc (.cells #[.slice p1 ps.length c1, .slice p2 ws.length c2] 28)) w.heap.size (.slice p1 ps.length c1) (.slice p2 ws.length c2) from alloc_heap w _)
  obtain ⟨x0, x1⟩ := T1.out.cells
  obtain ⟨wa, hwa⟩ : ∃ wa, wa = w.alloc (.cells #[.slice p1 ps.length c1, .slice p2 ws.length c2] 28) := ⟨_, rfl⟩
  rw [← hwa] at B1 T1
  generalize ifTwo ps ws a b (pickT ps a b true) = R at *
  generalize twoB ps ws a b = ok at *
  go_enter Try.func35, Try.ntmps35
  go_wp2_with fail
  rw [← hwa]
  clear hwa x0 x1
  refine (C.out _ B1.out).mono ?_
  rintro e w1 ⟨u, rfl, o1, b1⟩
  have FIN : Hid (NewIntsB R ok w (.returned (.tuple #[u, .bool ok])) w1) := Lib.hid ⟨_, rfl, o1.low B1.out.size, B1.out.trans (b1.mono B1.out.size)⟩
  clear o1 b1
  go_wp2_with fail
  go_ret2
  exact FIN.out
set_option maxRecDepth 100000 in
set_option maxHeartbeats 2000000 in
theorem lateM2 (ps ws a b : List Int) (v u1 u2 : Value) (w : World) (hn1 : a.length ≤ 1048576) (hn2 : b.length ≤ 1048576) (h : TreeV w w.heap.size v ps ws) (hu : IntsV w w.heap.size u1 a) (hv : IntsV w w.heap.size u2 b) :
    Calls Try.prog 34 #[v, u1, u2] w (NewIntsB (ifTwo ps ws a b (pickT ps a b true)) (twoB ps ws a b) w) := by
  have G := Lib.hid (fun w' (hb : Below w.heap.size w w') => goodS ps ws v w' (h.boxed hb))
  have SA := Lib.hid (fun (gd : Good ps ws) w' (hb : Below w.heap.size w w') => stopS ps ws a v u1 w' gd hn1 (h.boxed hb) ((hu.below hb).more hb.size))
  have SB := Lib.hid (fun (gd : Good ps ws) w' (hb : Below w.heap.size w w') => stopS ps ws b v u2 w' gd hn2 (h.boxed hb) ((hv.below hb).more hb.size))
  have PK := Lib.hid (fun (sa : Stop ps ws a) (sb : Stop ps ws b) w' (hb : Below w.heap.size w w') => pickSp ps ws a b true v u1 u2 w' sa sb hn1 hn2 (h.boxed hb) ((hu.below hb).more hb.size) ((hv.below hb).more hb.size))
  obtain ⟨p1, c1, p2, c2, rfl⟩ := h.shape
  obtain ⟨q1, d1, rfl, _⟩ := hu
  obtain ⟨q2, d2, rfl, _⟩ := hv
  clear h
  have B1 := Lib.hid ((Below.refl w.heap.size w).alloc (Nat.le_refl _) (.cells #[.slice p1 ps.length c1, .slice p2 ws.length c2] 28))
  have T1 := Lib.hid (show TBox (w.alloc (.cells #[.slice p1 ps.length c1, .slice p2 ws.length c2] 28)) w.heap.size (.slice p1 ps.length c1) (.slice p2 ws.length c2) from alloc_heap w _)
  obtain ⟨x0, x1⟩ := T1.out.cells
  obtain ⟨wa, hwa⟩ : ∃ wa, wa = w.alloc (.cells #[.slice p1 ps.length c1, .slice p2 ws.length c2] 28) := ⟨_, rfl⟩
  rw [← hwa] at B1 T1
  have D : Hid (twoB ps ws a b = (stopB ps ws a && stopB ps ws b)) := Lib.hid rfl
  have NO : Hid (twoB ps ws a b = false → ifTwo ps ws a b (pickT ps a b true) = []) := Lib.hid (fun h => by unfold ifTwo; rw [h]; rfl)
  cases hg : goodT ps ws
  · have R := Lib.hid (show twoB ps ws a b = false by rw [D.out, show stopB ps ws a = false by unfold stopB; rw [hg]; rfl]; rfl)
    rw [hg] at G
    rw [NO.out R.out, R.out]
    clear hg SA SB PK
    go_enter Try.func34, Try.ntmps34
    go_wp2_with fail
    rw [← hwa]
    clear hwa x0 x1
    refine (G.out _ B1.out).mono ?_
    rintro e w1 ⟨rfl, b1⟩
    have HB1 := Lib.hid (B1.out.trans (b1.mono B1.out.size))
    clear b1
    go_wp2_with fail
    go_ret2
    exact newInts_empty HB1.out
  · have SA2 := Lib.hid (SA.out (Good.of hg))
    have SB2 := Lib.hid (SB.out (Good.of hg))
    rw [hg] at G
    clear hg SA SB
    cases hsa : stopB ps ws a
    · have R := Lib.hid (show twoB ps ws a b = false by rw [D.out, hsa]; rfl)
      rw [hsa] at SA2
      rw [NO.out R.out, R.out]
      clear hsa PK
      go_enter Try.func34, Try.ntmps34
      go_wp2_with fail
      rw [← hwa]
      clear hwa x0 x1
      refine (G.out _ B1.out).mono ?_
      rintro e w1 ⟨rfl, b1⟩
      have HB1 := Lib.hid (B1.out.trans (b1.mono B1.out.size))
      obtain ⟨y0, y1⟩ := (T1.out.below b1 T1.out.lt).cells
      clear b1
      go_wp2_with fail
      refine (SA2.out _ HB1.out).mono ?_
      rintro e w2 ⟨rfl, b2⟩
      have HB2 := Lib.hid (HB1.out.trans (b2.mono HB1.out.size))
      clear b2
      go_wp2_with fail
      go_ret2
      exact newInts_empty HB2.out
    · rw [hsa] at SA2
      cases hsb : stopB ps ws b
      · have R := Lib.hid (show twoB ps ws a b = false by rw [D.out, hsa, hsb]; rfl)
        rw [hsb] at SB2
        rw [NO.out R.out, R.out]
        clear hsa hsb PK
        go_enter Try.func34, Try.ntmps34
        go_wp2_with fail
        rw [← hwa]
        clear hwa x0 x1
        refine (G.out _ B1.out).mono ?_
        rintro e w1 ⟨rfl, b1⟩
        have HB1 := Lib.hid (B1.out.trans (b1.mono B1.out.size))
        have HT1 := Lib.hid (T1.out.below b1 T1.out.lt)
        obtain ⟨y0, y1⟩ := HT1.out.cells
        clear b1
        go_wp2_with fail
        refine (SA2.out _ HB1.out).mono ?_
        rintro e w2 ⟨rfl, b2⟩
        have HB2 := Lib.hid (HB1.out.trans (b2.mono HB1.out.size))
        obtain ⟨z0, z1⟩ := (HT1.out.below b2 HT1.out.lt).cells
        clear b2
        go_wp2_with fail
        refine (SB2.out _ HB2.out).mono ?_
        rintro e w3 ⟨rfl, b3⟩
        have HB3 := Lib.hid (HB2.out.trans (b3.mono HB2.out.size))
        clear b3
        go_wp2_with fail
        go_ret2
        exact newInts_empty HB3.out
      · have R := Lib.hid (show twoB ps ws a b = true by rw [D.out, hsa, hsb]; rfl)
        have IT : Hid (ifTwo ps ws a b (pickT ps a b true) = pickT ps a b true) := Lib.hid (by unfold ifTwo; rw [R.out]; rfl)
        have PK2 := Lib.hid (PK.out (stopB_iff.1 hsa) (stopB_iff.1 hsb))
        rw [hsb] at SB2
        rw [IT.out, R.out]
        clear hsa hsb PK
        go_enter Try.func34, Try.ntmps34
        go_wp2_with fail
        rw [← hwa]
        clear hwa x0 x1
        refine (G.out _ B1.out).mono ?_
        rintro e w1 ⟨rfl, b1⟩
        have HB1 := Lib.hid (B1.out.trans (b1.mono B1.out.size))
        have HT1 := Lib.hid (T1.out.below b1 T1.out.lt)
        obtain ⟨y0, y1⟩ := HT1.out.cells
        clear b1
        go_wp2_with fail
        refine (SA2.out _ HB1.out).mono ?_
        rintro e w2 ⟨rfl, b2⟩
        have HB2 := Lib.hid (HB1.out.trans (b2.mono HB1.out.size))
        have HT2 := Lib.hid (HT1.out.below b2 HT1.out.lt)
        obtain ⟨z0, z1⟩ := HT2.out.cells
        clear b2 y0 y1
        go_wp2_with fail
        refine (SB2.out _ HB2.out).mono ?_
        rintro e w3 ⟨rfl, b3⟩
        have HB3 := Lib.hid (HB2.out.trans (b3.mono HB2.out.size))
        obtain ⟨y0, y1⟩ := (HT2.out.below b3 HT2.out.lt).cells
        clear b3 z0 z1
        go_wp2_with fail
        refine (PK2.out _ HB3.out).mono ?_
        rintro e w4 ⟨u, rfl, o4, b4⟩
        have FIN := Lib.hid (newInts_back HB3.out o4 b4)
        clear o4 b4
        go_wp2_with fail
        go_ret2
        exact FIN.out
end Go.Proofs.Ytbpelmpipkkonab
