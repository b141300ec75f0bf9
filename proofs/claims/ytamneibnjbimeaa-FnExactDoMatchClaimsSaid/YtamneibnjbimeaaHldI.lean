/- Holdings, in the program. -/
import Derived.Test.YtamneibnjbimeaaMktI
import Derived.Test.YtamneibnjbimeaaVBox
namespace Go.Proofs.Ytamneibnjbimeaa
open Go.RowKit
set_option linter.unusedVariables false
set_option maxHeartbeats 2000000 in
theorem holdPred (ps ws cs hs : List Int) (p1 p2 p3 q : Option Addr) (c1 c2 c3 d : Nat) (W0 : World) (A C : Nat) (hw : ws.length = ps.length) (hh : hs.length = ps.length) (kb : KBox W0 A (.slice p1 ps.length c1) (.slice p2 ws.length c2) (.slice p3 cs.length c3)) (vb : VBox W0 C (.slice q hs.length d) 22)
    (h : MktV W0 W0.heap.size (.agg #[.slice p1 ps.length c1, .slice p2 ws.length c2, .slice p3 cs.length c3]) ps ws cs) (hu : IntsV W0 W0.heap.size (.slice q hs.length d) hs) :
    PredI 76 #[.pointer (some ⟨A, 0, none⟩), .pointer (some ⟨C, 0, none⟩)] (heldE ws hs) ps.length W0 := by
  intro W x hx hb
  obtain ⟨x0, x1, x2⟩ := (kb.below hb kb.lt).cells
  have y0 := (vb.below hb vb.lt).cell
  have I := Lib.hid (isEndI ps ws _ x W (by omega) (h.tree.1.boxed hb))
  obtain ⟨_, _, e, _, _, _, i3⟩ := hu
  injection e with e e2 e3
  subst e
  subst e3
  obtain ⟨b, off, rfl, hbb, hc⟩ := IntsAt.get i3 (i := x) (by omega)
  have hcw : ∀ w1, Below W.heap.size W w1 → w1.cell? ⟨b, off + x, none⟩ = some (.int .i64 (hs.getD x 0)) := fun w1 h1 => by
    rw [h1.cell (p := ⟨b, off + x, none⟩) (by have := hb.size; show b < _; omega), hb.cell (p := ⟨b, off + x, none⟩) hbb]; exact hc
  have HC := Lib.hid hcw
  have VB := Lib.hid (vb.below hb vb.lt)
  have D : Hid (heldE ws hs x = (decide (0 < ws.getD x 0) && (hs.getD x 0 != 0))) := Lib.hid rfl
  have i0 : (0 : Int) ≤ (x : Int) := by omega
  have i1 : (x : Int) < (hs.length : Int) := by omega
  clear h kb vb hw hcw hc i3 e2 hb hh
  obtain ⟨z, hz⟩ : ∃ z, z = hs.getD x 0 := ⟨_, rfl⟩
  rw [← hz] at HC D
  clear hz
  show Calls _ _ #[.int .i64 x, .pointer (some ⟨A, 0, none⟩), .pointer (some ⟨C, 0, none⟩)] _ _
  cases he : decide (0 < ws.getD x 0)
  · rw [he] at I D
    clear he
    go_enter Try.func76, Try.ntmps76
    go_wp2_with fail
    refine I.out.mono ?_
    rintro e w1 ⟨rfl, b1⟩
    have HB := Lib.hid b1
    clear b1
    go_wp2_with fail
    go_ret
    exact ⟨ret_b (by rw [D.out]; rfl), HB.out⟩
  · rw [he] at I D
    clear he
    go_enter Try.func76, Try.ntmps76
    go_wp2_with fail
    refine I.out.mono ?_
    rintro e w1 ⟨rfl, b1⟩
    have HB := Lib.hid b1
    have y1 := (VB.out.below b1 VB.out.lt).cell
    have hc1 := HC.out _ b1
    clear b1 y0
    go_wp2_with fail
    go_ret
    exact ⟨ret_b (by rw [D.out]; rfl), HB.out⟩
set_option maxRecDepth 100000 in
set_option maxHeartbeats 4000000 in
theorem holdsI (ps ws cs hs : List Int) (v u : Value) (w : World) (hn : cs.length ≤ 1048576) (hn1 : hs.length ≤ 1048576) (h : MktV w w.heap.size v ps ws cs) (hu : IntsV w w.heap.size u hs) :
    Calls Try.prog 49 #[v, u] w (Gives (.bool (holdB ps ws cs hs)) w) := by
  have G := Lib.hid (fun w' (hb : Below w.heap.size w w') => isMktI ps ws cs v w' hn (h.boxed hb))
  have WI := Lib.hid (fun w' (hb : Below w.heap.size w w') => withinI hs u (cs.length : Int) 99 w' (by omega) hn1 ((hu.below hb).more hb.size))
  have HV := Lib.hid h
  have HU := Lib.hid hu
  obtain ⟨p1, c1, p2, c2, p3, c3, rfl⟩ := h.shape
  obtain ⟨q, d, rfl, _⟩ := hu
  clear h
  have hmf : ∀ (fn : Fn) (first cap : Array Value) (w : World), (Instr.makeFunc fn first cap).run Try.prog w = .ok (.func fn first cap) w := fun _ _ _ _ => rfl
  obtain ⟨wa, hwa⟩ : ∃ wa, wa = (w.alloc (.cells #[.slice p1 ps.length c1, .slice p2 ws.length c2, .slice p3 cs.length c3] 31)).alloc (.cells #[.slice q hs.length d] 22) := ⟨_, rfl⟩
  obtain ⟨k1, k2⟩ := alloc_two w (.cells #[.slice p1 ps.length c1, .slice p2 ws.length c2, .slice p3 cs.length c3] 31) (.cells #[.slice q hs.length d] 22)
  have B1 : Below w.heap.size w wa := by rw [hwa]; exact ((Below.refl w.heap.size w).alloc (Nat.le_refl _) _).alloc (by simp) _
  have T1 := Lib.hid (show KBox wa w.heap.size (.slice p1 ps.length c1) (.slice p2 ws.length c2) (.slice p3 cs.length c3) by rw [hwa]; exact k1)
  have T2 := Lib.hid (show VBox wa (w.heap.size + 1) (.slice q hs.length d) 22 by rw [hwa]; exact k2)
  have HBA := Lib.hid B1
  clear k1 k2 B1
  have D : Hid (holdB ps ws cs hs = (goodM ps ws cs && ((decide ((hs.length : Int) = (cs.length : Int)) && withinB 99 hs) && zeroE ws hs cs.length))) := Lib.hid (by
    unfold holdB
    congr 1
    rw [← Bool.and_assoc]
    congr 2
    rw [Bool.eq_iff_iff, decide_eq_true_iff, decide_eq_true_iff]; omega)
  obtain ⟨x0, x1, x2⟩ := T1.out.cells
  have y0 := T2.out.cell
  cases hg : goodM ps ws cs
  · rw [hg] at G D
    clear hg
    go_enter Try.func49, Try.ntmps49
    go_wp2_with fail
    rw [← hwa]
    clear hwa
    refine (G.out _ HBA.out).mono ?_
    rintro e w1 ⟨rfl, b1⟩
    have HB1 := Lib.hid (HBA.out.trans (b1.mono HBA.out.size))
    clear b1
    go_wp2_with fail
    go_ret
    exact ⟨ret_b (by rw [D.out]; rfl), HB1.out⟩
  · have MK := Lib.hid (goodM_iff.1 hg)
    rw [hg] at G D
    clear hg
    cases hk : (decide ((hs.length : Int) = (cs.length : Int)) && withinB 99 hs)
    · rw [hk] at WI D
      clear hk
      go_enter Try.func49, Try.ntmps49
      go_wp2_with fail
      rw [← hwa]
      clear hwa
      refine (G.out _ HBA.out).mono ?_
      rintro e w1 ⟨rfl, b1⟩
      have HB1 := Lib.hid (HBA.out.trans (b1.mono HBA.out.size))
      obtain ⟨z0, z1, z2⟩ := (T1.out.below b1 T1.out.lt).cells
      have z3 := (T2.out.below b1 T2.out.lt).cell
      clear b1 x0 x1 x2 y0
      go_wp2_with fail
      refine (WI.out _ HB1.out).mono ?_
      rintro e w2 ⟨rfl, b2⟩
      have HB2 := Lib.hid (HB1.out.trans (b2.mono HB1.out.size))
      clear b2
      go_wp2_with fail
      go_ret
      exact ⟨ret_b (by rw [D.out]; rfl), HB2.out⟩
    · have HL := Lib.hid (show hs.length = ps.length by
        rw [Bool.and_eq_true, decide_eq_true_iff] at hk
        have := hk.1
        have := MK.out.len
        omega)
      rw [hk] at WI D
      have ZN := Lib.hid (zeroE_nodes ws hs cs.length)
      rw [MK.out.len] at ZN D
      have ps24 := MK.out.good.n24
      clear hk
      go_enter Try.func49, Try.ntmps49
      go_wp2_with fail
      rw [← hwa]
      clear hwa
      refine (G.out _ HBA.out).mono ?_
      rintro e w1 ⟨rfl, b1⟩
      have HB1 := Lib.hid (HBA.out.trans (b1.mono HBA.out.size))
      have U1 := Lib.hid (T1.out.below b1 T1.out.lt)
      have U2 := Lib.hid (T2.out.below b1 T2.out.lt)
      obtain ⟨z0, z1, z2⟩ := U1.out.cells
      have z3 := U2.out.cell
      clear b1 x0 x1 x2 y0
      go_wp2_with fail
      refine (WI.out _ HB1.out).mono ?_
      rintro e w2 ⟨rfl, b2⟩
      have HB2 := Lib.hid (HB1.out.trans (b2.mono HB1.out.size))
      have V1 := Lib.hid (U1.out.below b2 U1.out.lt)
      have V2 := Lib.hid (U2.out.below b2 U2.out.lt)
      obtain ⟨t0, t1, t2⟩ := V1.out.cells
      clear b2 z0 z1 z2 z3 U1 U2 T1 T2 WI G
      have NC := Lib.hid (nodesI ps ws _ 76 #[.pointer (some ⟨w.heap.size, 0, none⟩), .pointer (some ⟨w.heap.size + 1, 0, none⟩)] (heldE ws hs) w2 (enters_of Try.func76 (by kernel_rfl) rfl) (by omega) ((HV.out.boxed HB2.out).tree.1)
        (holdPred ps ws cs hs p1 p2 p3 q c1 c2 c3 d w2 w.heap.size (w.heap.size + 1) MK.out.good.nw HL.out V1.out V2.out (HV.out.boxed HB2.out) ((HU.out.below HB2.out).more HB2.out.size)))
      obtain ⟨N, hN⟩ : ∃ N, N = nodesW (heldE ws hs) ps.length := ⟨_, rfl⟩
      rw [← hN] at NC ZN
      clear hN
      go_wp2_with fail
      refine NC.out.mono ?_
      rintro e w3 ⟨u3, rfl, o3, b3⟩
      obtain ⟨g3, d3, rfl, _⟩ := o3.intsV
      have HB3 := Lib.hid (HB2.out.trans (b3.mono HB2.out.size))
      clear o3 b3
      go_wp2_with fail
      go_ret
      exact ⟨ret_b (by rw [D.out, ZN.out, Bool.eq_iff_iff]; simp), HB3.out⟩
end Go.Proofs.Ytamneibnjbimeaa
