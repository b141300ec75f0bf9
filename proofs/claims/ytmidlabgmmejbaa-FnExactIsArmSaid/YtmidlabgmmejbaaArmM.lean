/- Arms, in the model. -/
import Derived.Test.YtmidlabgmmejbaaArmH
import Derived.Test.YtmidlabgmmejbaaArmP
import Derived.Test.YtmidlabgmmejbaaGoodS
import Derived.Test.YtmidlabgmmejbaaDepthS
import Derived.Test.YtmidlabgmmejbaaInS
import Derived.Deep.LoopGhost
namespace Go.Proofs.Ytmidlabgmmejbaa
open Go.RowKit
set_option linter.unusedVariables false
theorem mxL_nat {zs : List Int} (h0 : zs.getD 0 0 = 0) : mxL zs 0 = 0 := h0
set_option maxRecDepth 100000 in
set_option maxHeartbeats 2000000 in
theorem deepS (ps ws : List Int) (v : Value) (w : World) (gd : Good ps ws) (h : TreeV w w.heap.size v ps ws) :
    Calls Try.prog 94 #[v] w (Gives (.int .i64 (deepT ps)) w) := by
  have DS := Lib.hid (fun w' (hb : Below w.heap.size w w') => depthsS ps ws v w' gd (h.boxed hb))
  have MS := Lib.hid (fun a b w => mostS a b w)
  have hl := depthsT_len ps
  have M0 := Lib.hid (mxL_nat (depthsT_zero ps gd.n1))
  have n24 := gd.n24
  obtain ⟨p1, c1, p2, c2, rfl⟩ := h.shape
  have DD : Hid (deepT ps = mxL (depthsT ps) (depthsT ps).length) := Lib.hid (by rw [hl]; rfl)
  have hl2 : (depthsT ps).length ≤ 24 := by omega
  clear h hl gd
  generalize depthsT ps = ds at *
  rw [DD.out]
  have B1 := (Below.refl w.heap.size w).alloc (Nat.le_refl _) (.cells #[.slice p1 ps.length c1, .slice p2 ws.length c2] 29)
  go_enter Try.func94, Try.ntmps94
  go_wp2_with fail
  refine (DS.out _ B1).mono ?_
  rintro e w1 ⟨u, rfl, o1, b1⟩
  have HB1 := Lib.hid (B1.trans (b1.mono B1.size))
  obtain ⟨q, cq, rfl, _, _, _, i1⟩ := o1.intsV
  have E1 := Lib.hid i1
  clear o1 b1 B1 i1
  go_wp2_with fail
  go_loopg [3, 5] ds.length (fun gg s t wr => ∃ k : Nat, k ≤ ds.length ∧ ds.length - k ≤ gg ∧ s = .int .i64 (mxL ds k) ∧ t = .int .i64 k ∧ Hid (Below w1.heap.size w1 wr))
  case atStart => exact ⟨0, Nat.zero_le _, by omega, by rw [M0.out], rfl, Lib.hid (Below.refl _ _)⟩
  case round =>
    obtain ⟨k, hk, hgg, rfl, rfl, HB⟩ := hrel
    by_cases hlt : k < ds.length
    · obtain ⟨b, off, rfl, hb, hc⟩ := E1.out.get hlt
      have hcw : wr.cell? ⟨b, off + k, none⟩ = some (.int .i64 (ds.getD k 0)) := by rw [HB.out.cell (p := ⟨b, off + k, none⟩) hb]; exact hc
      have i0 : (0 : Int) ≤ (k : Int) := by omega
      have i1 : (k : Int) < (ds.length : Int) := by omega
      have NX := Lib.hid (show mxL ds (k + 1) = max (mxL ds k) (ds.getD k 0) from rfl)
      generalize ds.getD k 0 = z at *
      generalize mxL ds k = m at *
      clear hc
      go_wp2_with fail
      refine (MS.out _ _ _).mono ?_
      rintro e w2 ⟨rfl, rfl⟩
      go_wp2_with fail
      go_roundg (ds.length - (k + 1))
      case rel => exact ⟨k + 1, by omega, by omega, by rw [NX.out], by go_num, HB⟩
      case measure => omega
    · obtain rfl : k = ds.length := by omega
      have FIN := Lib.hid (HB1.out.trans (HB.out.mono HB1.out.size))
      go_wp2_with fail
      go_ret
      exact ⟨rfl, FIN.out⟩
/-- Behind the tests, the fees are looked through. -/
def feeOk (ws cs : List Int) (j : Nat) : Prop := (-99 ≤ cs.getD j 0 ∧ cs.getD j 0 ≤ 99) ∧ heldE ws cs j = false
theorem armB_yes {ps ws cs : List Int} (h1 : goodT ps ws = true) (h2 : ps.length ≤ 9) (h3 : deepT ps ≤ 4) (hl : cs.length = ps.length) (h : ∀ j, j < cs.length → feeOk ws cs j) : armB ps ws cs = true :=
  armB_iff.2 ⟨Good.of h1, h2, h3, hl, fun i hi => (h i hi).1, fun x hx => (h x (by omega)).2⟩
theorem armB_no {ps ws cs : List Int} {j : Nat} (hj : j < cs.length) (h : ¬ feeOk ws cs j) : armB ps ws cs = false := by
  cases hb : armB ps ws cs
  · rfl
  · have A := armB_iff.1 hb
    exact absurd ⟨A.bd j hj, A.zero j (by have := A.len; omega)⟩ h
theorem armB_len {ps ws cs : List Int} (h : ¬ cs.length = ps.length) : armB ps ws cs = false := by
  cases hb : armB ps ws cs
  · rfl
  · exact absurd (armB_iff.1 hb).len h
set_option maxRecDepth 100000 in
set_option maxHeartbeats 4000000 in
theorem armS (ps ws cs : List Int) (v : Value) (w : World) (hn : cs.length ≤ 1048576) (h : ArmV w w.heap.size v ps ws cs) :
    Calls Try.prog 47 #[v] w (Gives (.bool (armB ps ws cs)) w) := by
  have HV := Lib.hid h
  have G := Lib.hid (fun v1 v2 v3 (hv : v = .agg #[v1, v2, v3]) w' (hb : Below w.heap.size w w') => goodS ps ws (.agg #[v1, v2]) w' ((show TreeV w w.heap.size _ ps ws by (have h2 := h; rw [hv] at h2; exact h2.tree.1)).boxed hb))
  have HI := Lib.hid (fun v1 v2 v3 (hv : v = .agg #[v1, v2, v3]) (gd : Good ps ws) w' (hb : Below w.heap.size w w') => deepS ps ws (.agg #[v1, v2]) w' gd ((show TreeV w w.heap.size _ ps ws by (have h2 := h; rw [hv] at h2; exact h2.tree.1)).boxed hb))
  obtain ⟨p1, c1, p2, c2, p3, c3, rfl⟩ := h.shape
  obtain ⟨q3, d3, e3, _, _, _, i3⟩ := h.tree.2
  injection e3 with e3 e4 e5
  subst e3
  subst e5
  clear e4
  obtain ⟨q2, d2, e2, _, _, _, i2⟩ := show IntsV w w.heap.size (.slice p2 ws.length c2) ws by
    obtain ⟨_, _, ee, _, hh⟩ := h.tree.1
    injection ee with ee
    injection ee with ee
    injection ee with ee1 ee
    injection ee with ee2 ee
    subst ee2
    exact hh
  injection e2 with e2 e4 e5
  subst e2
  subst e5
  clear e4
  have E1 := Lib.hid i3
  have E2 := Lib.hid i2
  clear i3 i2 h
  obtain ⟨wa, hwa⟩ : ∃ wa, wa = w.alloc (.cells #[.slice p1 ps.length c1, .slice p2 ws.length c2, .slice p3 cs.length c3] 31) := ⟨_, rfl⟩
  have B1 : Below w.heap.size w wa := by rw [hwa]; exact (Below.refl w.heap.size w).alloc (Nat.le_refl _) _
  have T1 := Lib.hid (show AKBox wa w.heap.size (.slice p1 ps.length c1) (.slice p2 ws.length c2) (.slice p3 cs.length c3) by rw [hwa]; exact alloc_heap w _)
  have HBA := Lib.hid B1
  clear B1
  have A1 := Lib.hid (armB_good (ps := ps) (ws := ws) (fs := cs))
  have A2 := Lib.hid (armB_size (ps := ps) (ws := ws) (fs := cs))
  have A3 := Lib.hid (armB_deep (ps := ps) (ws := ws) (fs := cs))
  have A4 := Lib.hid (armB_len (ps := ps) (ws := ws) (cs := cs))
  have A5 := Lib.hid (armB_yes (ps := ps) (ws := ws) (cs := cs))
  have A6 := Lib.hid (fun j hj h => armB_no (ps := ps) (ws := ws) (cs := cs) (j := j) hj h)
  obtain ⟨R, hR⟩ : ∃ R, R = armB ps ws cs := ⟨_, rfl⟩
  rw [← hR] at A1 A2 A3 A4 A5 A6 ⊢
  clear hR
  obtain ⟨x0, x1, x2⟩ := T1.out.cells
  cases hg : goodT ps ws
  · rw [hg] at G
    have AA := Lib.hid (A1.out hg)
    clear hg
    go_enter Try.func47, Try.ntmps47
    go_wp2_with fail
    rw [← hwa]
    clear hwa
    refine (G.out _ _ _ rfl _ HBA.out).mono ?_
    rintro e w1 ⟨rfl, b1⟩
    have HB1 := Lib.hid (HBA.out.trans (b1.mono HBA.out.size))
    clear b1
    go_wp2_with fail
    go_ret
    exact ⟨ret_b (by rw [AA.out]), HB1.out⟩
  have GD := Lib.hid (Good.of hg)
  rw [hg] at G
  by_cases h9 : ¬ ps.length ≤ 9
  · have AA := Lib.hid (A2.out h9)
    have t1 : ((ps.length : Int) > 9) := by omega
    clear hg h9
    go_enter Try.func47, Try.ntmps47
    go_wp2_with fail
    rw [← hwa]
    clear hwa
    refine (G.out _ _ _ rfl _ HBA.out).mono ?_
    rintro e w1 ⟨rfl, b1⟩
    have HB1 := Lib.hid (HBA.out.trans (b1.mono HBA.out.size))
    have T2 := Lib.hid (T1.out.below b1 T1.out.lt)
    clear b1 x0 x1 x2
    obtain ⟨x0, x1, x2⟩ := T2.out.cells
    go_wp2_with fail
    go_ret
    exact ⟨ret_b (by rw [AA.out]), HB1.out⟩
  have h9' : ps.length ≤ 9 := by omega
  have t1 : ¬ ((ps.length : Int) > 9) := by omega
  by_cases hl : ¬ cs.length = ps.length
  · have AA := Lib.hid (A4.out hl)
    have t3 : ((cs.length : Int) != (ps.length : Int)) = true := by simpa using (show ¬ (cs.length : Int) = (ps.length : Int) by omega)
    clear hg h9 hl
    go_enter Try.func47, Try.ntmps47
    go_wp2_with fail
    rw [← hwa]
    clear hwa
    refine (G.out _ _ _ rfl _ HBA.out).mono ?_
    rintro e w1 ⟨rfl, b1⟩
    have HB1 := Lib.hid (HBA.out.trans (b1.mono HBA.out.size))
    have T2 := Lib.hid (T1.out.below b1 T1.out.lt)
    clear b1 x0 x1 x2
    obtain ⟨x0, x1, x2⟩ := T2.out.cells
    go_wp2_with fail
    go_ret
    exact ⟨ret_b (by rw [AA.out]), HB1.out⟩
  have HL := Lib.hid (show cs.length = ps.length by omega)
  have HCW := Lib.hid (show ws.length = cs.length by have := GD.out.nw; have := HL.out; omega)
  have t3 : ((cs.length : Int) != (ps.length : Int)) = false := by simpa using (show (cs.length : Int) = (ps.length : Int) by omega)
  by_cases h4 : ¬ deepT ps ≤ 4
  · have AA := Lib.hid (A3.out h4)
    have t2 : deepT ps > 4 := by omega
    clear hg h9 hl h4
    generalize deepT ps = D at *
    go_enter Try.func47, Try.ntmps47
    go_wp2_with fail
    rw [← hwa]
    clear hwa
    refine (G.out _ _ _ rfl _ HBA.out).mono ?_
    rintro e w1 ⟨rfl, b1⟩
    have HB1 := Lib.hid (HBA.out.trans (b1.mono HBA.out.size))
    have T2 := Lib.hid (T1.out.below b1 T1.out.lt)
    clear b1 x0 x1 x2
    obtain ⟨x0, x1, x2⟩ := T2.out.cells
    go_wp2_with fail
    refine (HI.out _ _ _ rfl GD.out _ HB1.out).mono ?_
    rintro e w2 ⟨rfl, b2⟩
    have HB2 := Lib.hid (HB1.out.trans (b2.mono HB1.out.size))
    clear b2
    go_wp2_with fail
    go_ret
    exact ⟨ret_b (by rw [AA.out]), HB2.out⟩
  have t2 : ¬ deepT ps > 4 := by omega
  have AY := Lib.hid (fun h => A5.out hg h9' (by omega) HL.out h)
  clear h9 hl h4 A1 A2 A3 A4 A5 hg
  generalize deepT ps = D at *
  go_enter Try.func47, Try.ntmps47
  go_wp2_with fail
  rw [← hwa]
  clear hwa
  refine (G.out _ _ _ rfl _ HBA.out).mono ?_
  rintro e w1 ⟨rfl, b1⟩
  have HB1 := Lib.hid (HBA.out.trans (b1.mono HBA.out.size))
  have T2 := Lib.hid (T1.out.below b1 T1.out.lt)
  clear b1 x0 x1 x2
  obtain ⟨x0, x1, x2⟩ := T2.out.cells
  go_wp2_with fail
  refine (HI.out _ _ _ rfl GD.out _ HB1.out).mono ?_
  rintro e w2 ⟨rfl, b2⟩
  have HB2 := Lib.hid (HB1.out.trans (b2.mono HB1.out.size))
  have T3 := Lib.hid (T2.out.below b2 T2.out.lt)
  clear b2 x0 x1 x2 T1 T2 G HI HV t1 t3
  go_wp2_with fail
  go_loopg [3] cs.length (fun gg t wr => ∃ k : Nat, k ≤ cs.length ∧ cs.length - k ≤ gg ∧ t = .int .i64 k ∧ Hid (∀ j, j < k → feeOk ws cs j) ∧ Hid (Below w2.heap.size w2 wr))
  case atStart => exact ⟨0, Nat.zero_le _, by omega, rfl, Lib.hid (fun j hj => by omega), Lib.hid (Below.refl _ _)⟩
  case round =>
    obtain ⟨k, hk, hgg, rfl, HA, HB⟩ := hrel
    obtain ⟨x0, x1, x2⟩ := (T3.out.below HB.out T3.out.lt).cells
    have HBW := Lib.hid (HB2.out.trans (HB.out.mono HB2.out.size))
    by_cases hlt : k < cs.length
    · obtain ⟨b, off, rfl, hb, hc⟩ := E1.out.get hlt
      obtain ⟨b2, off2, rfl, hb2, hc2⟩ := E2.out.get (show k < ws.length by have := HCW.out; omega)
      have hcw : wr.cell? ⟨b, off + k, none⟩ = some (.int .i64 (cs.getD k 0)) := by rw [HBW.out.cell (p := ⟨b, off + k, none⟩) hb]; exact hc
      have hww : wr.cell? ⟨b2, off2 + k, none⟩ = some (.int .i64 (ws.getD k 0)) := by rw [HBW.out.cell (p := ⟨b2, off2 + k, none⟩) hb2]; exact hc2
      have i0 : (0 : Int) ≤ (k : Int) := by omega
      have i1 : (k : Int) < (cs.length : Int) := by omega
      have i2 : (k : Int) < (ws.length : Int) := by have := HCW.out; omega
      have NO := Lib.hid (A6.out k hlt)
      have FO := Lib.hid (show feeOk ws cs k ↔ (-99 ≤ cs.getD k 0 ∧ cs.getD k 0 ≤ 99) ∧ (decide (0 < ws.getD k 0) && (cs.getD k 0 != 0)) = false from Iff.rfl)
      have NX : Hid (feeOk ws cs k → ∀ j, j < k + 1 → feeOk ws cs j) := Lib.hid (fun h j hj => by
        rcases Nat.lt_or_ge j k with h' | h'
        · exact HA.out j h'
        · obtain rfl : j = k := by omega
          exact h)
      obtain ⟨z, hz⟩ : ∃ z, z = cs.getD k 0 := ⟨_, rfl⟩
      obtain ⟨y, hy⟩ : ∃ z, z = ws.getD k 0 := ⟨_, rfl⟩
      rw [← hz] at hcw FO
      rw [← hy] at hww FO
      clear hc hc2 hz hy HA
      by_cases hin : -99 ≤ z ∧ z ≤ 99
      · have I := Lib.hid (fun w => inS_true z (-99) 99 w hin)
        by_cases hy0 : 0 < y
        · by_cases hz0 : z = 0
          · have N2 := Lib.hid (NX.out (FO.out.2 ⟨hin, by rw [hz0]; simp⟩))
            have hzb : (z != 0) = false := by simpa using hz0
            clear NX NO FO hin hz0
            go_wp2_with fail
            refine (I.out _).mono ?_
            rintro e w3 ⟨rfl, rfl⟩
            go_wp2_with fail
            go_roundg (cs.length - (k + 1))
            case rel => exact ⟨k + 1, by omega, by omega, by go_num, N2, HB⟩
            case measure => omega
          · have N2 := Lib.hid (NO.out (fun h => by
              have := (FO.out.1 h).2
              rw [decide_eq_true hy0] at this
              simp at this
              exact hz0 this))
            have hzb : (z != 0) = true := by simpa using hz0
            clear NX NO FO hin hz0
            go_wp2_with fail
            refine (I.out _).mono ?_
            rintro e w3 ⟨rfl, rfl⟩
            go_wp2_with fail
            go_ret
            exact ⟨ret_b (by rw [N2.out]), HBW.out⟩
        · have N2 := Lib.hid (NX.out (FO.out.2 ⟨hin, by rw [decide_eq_false hy0]; rfl⟩))
          clear NX NO FO hin
          go_wp2_with fail
          refine (I.out _).mono ?_
          rintro e w3 ⟨rfl, rfl⟩
          go_wp2_with fail
          go_roundg (cs.length - (k + 1))
          case rel => exact ⟨k + 1, by omega, by omega, by go_num, N2, HB⟩
          case measure => omega
      · have I := Lib.hid (fun w => inS_false z (-99) 99 w hin)
        have N2 := Lib.hid (NO.out (fun h => hin (FO.out.1 h).1))
        clear NX NO FO hin
        go_wp2_with fail
        refine (I.out _).mono ?_
        rintro e w3 ⟨rfl, rfl⟩
        go_wp2_with fail
        go_ret
        exact ⟨ret_b (by rw [N2.out]), HBW.out⟩
    · have R := Lib.hid (AY.out (fun i hi => HA.out i (by omega)))
      clear HA
      go_wp2_with fail
      go_ret
      exact ⟨ret_b (by rw [R.out]), HBW.out⟩
theorem isArmS (ps ws cs : List Int) (v : Value) (w : World) (hn : cs.length ≤ 1048576) (h : ArmV w w.heap.size v ps ws cs) :
    Calls Try.prog 13 #[v] w (Gives (.bool (armB ps ws cs)) w) := by
  have G := Lib.hid (fun w' (hb : Below w.heap.size w w') => armS ps ws cs v w' hn (h.boxed hb))
  obtain ⟨p1, c1, p2, c2, p3, c3, rfl⟩ := h.shape
  clear h
  have B1 := (Below.refl w.heap.size w).alloc (Nat.le_refl _) (.cells #[.slice p1 ps.length c1, .slice p2 ws.length c2, .slice p3 cs.length c3] 31)
  have T1 := Lib.hid (show AKBox (w.alloc (.cells #[.slice p1 ps.length c1, .slice p2 ws.length c2, .slice p3 cs.length c3] 31)) w.heap.size (.slice p1 ps.length c1) (.slice p2 ws.length c2) (.slice p3 cs.length c3) from alloc_heap w _)
  obtain ⟨x0, x1, x2⟩ := T1.out.cells
  go_enter Try.func13, Try.ntmps13
  go_wp2_with fail
  refine (G.out _ B1).mono ?_
  rintro e w1 ⟨rfl, b1⟩
  have HB1 := Lib.hid (B1.trans (b1.mono B1.size))
  clear b1
  go_wp2_with fail
  go_ret
  exact ⟨rfl, HB1.out⟩
end Go.Proofs.Ytmidlabgmmejbaa
