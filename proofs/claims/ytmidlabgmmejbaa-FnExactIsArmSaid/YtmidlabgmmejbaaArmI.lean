/- Arms, in the program. -/
import Derived.Test.YtmidlabgmmejbaaArmH
import Derived.Test.YtmidlabgmmejbaaArmP
import Derived.Test.YtmidlabgmmejbaaWlkI
import Derived.Test.YtmidlabgmmejbaaDepthI
import Derived.Test.YtmidlabgmmejbaaNodes
import Derived.Deep.LoopGhost
namespace Go.Proofs.Ytmidlabgmmejbaa
open Go.RowKit
set_option linter.unusedVariables false
set_option maxRecDepth 100000 in
set_option maxHeartbeats 2000000 in
theorem slMaxI (zs : List Int) (v : Value) (w : World) (h0 : 0 < zs.length) (h : IntsV w w.heap.size v zs) :
    Calls Try.prog 96 #[v] w (Gives (.int .i64 (mxL zs zs.length)) w) := by
  have hl := h.len
  obtain ⟨q, cq, rfl, _, _, _, i1⟩ := h
  have E1 := Lib.hid i1
  have M1 := Lib.hid (mxL_one zs)
  obtain ⟨b, off, rfl, hb, hc⟩ := i1.get h0
  have n1 : ¬ (zs.length : Int) < 1 := by omega
  have n2 : (1 : Int) ≤ (zs.length : Int) := by omega
  have n3 : (0 : Int) < (zs.length : Int) := by omega
  obtain ⟨z0, hz0⟩ : ∃ z, z = zs.getD 0 0 := ⟨_, rfl⟩
  rw [← hz0] at hc M1
  rw [Nat.add_zero] at hc
  clear i1 hz0
  go_enter Try.func96, Try.ntmps96
  go_wp2_with fail
  go_loopg [3, 4] zs.length (fun gg s t wr => ∃ k : Nat, 1 ≤ k ∧ k ≤ zs.length ∧ zs.length - k ≤ gg ∧ s = .int .i64 (mxL zs k) ∧ t = .int .i64 k ∧ Hid (Below w.heap.size w wr))
  case atStart => exact ⟨1, Nat.le_refl _, by omega, by omega, by rw [M1.out], rfl, Lib.hid (by first | exact Below.refl _ _ | exact below_drewN (Below.refl _ _) _ | exact below_drew (Below.refl _ _))⟩
  case round =>
    obtain ⟨k, hk1, hk, hgg, rfl, rfl, HB⟩ := hrel
    clear hc
    by_cases hlt : k < zs.length
    · obtain ⟨b', off', e1, hb', hc'⟩ := E1.out.get hlt
      injection e1 with e1
      injection e1 with e1 e2
      subst e1; subst e2
      have hcw : wr.cell? ⟨b, off + k, none⟩ = some (.int .i64 (zs.getD k 0)) := by rw [HB.out.cell (p := ⟨b, off + k, none⟩) hb]; exact hc'
      have i0 : (0 : Int) ≤ (k : Int) := by omega
      have i1 : (k : Int) < (zs.length : Int) := by omega
      have NX := Lib.hid (show mxL zs (k + 1) = max (mxL zs k) (zs.getD k 0) from rfl)
      generalize zs.getD k 0 = z at *
      generalize mxL zs k = m at *
      clear hc'
      go_wp2_with fail
      go_roundg (zs.length - (k + 1))
      case rel => exact ⟨k + 1, by omega, by omega, by omega, by rw [NX.out], by go_num, HB⟩
      case measure => omega
    · obtain rfl : k = zs.length := by omega
      go_wp2_with fail
      go_ret
      exact ⟨rfl, HB.out⟩
set_option maxHeartbeats 2000000 in
theorem heightI (ps ws : List Int) (v : Value) (w : World) (gd : Good ps ws) (h : TreeV w w.heap.size v ps ws) :
    Calls Try.prog 50 #[v] w (Gives (.int .i64 (deepT ps)) w) := by
  have DI := Lib.hid (fun w' (hb : Below w.heap.size w w') => depthsI ps ws v w' (h.boxed hb))
  have hg : goodT ps ws = true := (goodT_iff _ _).2 gd
  have IG : ifGood ps ws (depthsT ps) = depthsT ps := by unfold ifGood; rw [hg]; rfl
  rw [IG, hg] at DI
  have hl := depthsT_len ps
  have h1 := gd.n1
  have MX := Lib.hid (fun (w1 w' : World) (u : Value) (o : OwnV w1 w.heap.size w1.heap.size u (depthsT ps)) => show Calls Try.prog 96 #[u] w1 (Gives (.int .i64 (deepT ps)) w1) from by
    have := slMaxI (depthsT ps) u w1 (by omega) o.intsV
    rw [hl] at this
    exact this)
  obtain ⟨p1, c1, p2, c2, rfl⟩ := h.shape
  clear h hg IG hl gd
  have DT := Lib.hid (rfl : deepT ps = deepT ps)
  generalize deepT ps = D at *
  generalize depthsT ps = ds at *
  have B1 := (Below.refl w.heap.size w).alloc (Nat.le_refl _) (.cells #[.slice p1 ps.length c1, .slice p2 ws.length c2] 29)
  go_enter Try.func50, Try.ntmps50
  go_wp2_with fail
  refine (DI.out _ B1).mono ?_
  rintro e w1 ⟨u, rfl, o1, b1⟩
  have HB1 := Lib.hid (B1.trans (b1.mono B1.size))
  have O1 := Lib.hid (o1.low (show w.heap.size ≤ _ by simp))
  clear o1 b1 B1
  go_wp2_with fail
  refine (MX.out _ w1 _ O1.out).mono ?_
  rintro e w2 ⟨rfl, b2⟩
  have HB2 := Lib.hid (HB1.out.trans (b2.mono HB1.out.size))
  clear b2
  go_wp2_with fail
  go_ret
  exact ⟨rfl, HB2.out⟩
set_option maxHeartbeats 2000000 in
theorem paidPred (ps ws cs : List Int) (p1 p2 p3 : Option Addr) (c1 c2 c3 : Nat) (W0 : World) (A : Nat) (hw : ws.length = ps.length) (hh : cs.length = ps.length) (kb : AKBox W0 A (.slice p1 ps.length c1) (.slice p2 ws.length c2) (.slice p3 cs.length c3))
    (h : ArmV W0 W0.heap.size (.agg #[.slice p1 ps.length c1, .slice p2 ws.length c2, .slice p3 cs.length c3]) ps ws cs) :
    PredI 51 #[.pointer (some ⟨A, 0, none⟩)] (heldE ws cs) ps.length W0 := by
  intro W x hx hb
  obtain ⟨x0, x1, x2⟩ := (kb.below hb kb.lt).cells
  have I := Lib.hid (isEndI ps ws _ x W (by omega) (h.tree.1.boxed hb))
  obtain ⟨_, _, e, _, _, _, i3⟩ := h.tree.2
  injection e with e e2 e3
  subst e
  subst e3
  obtain ⟨b, off, rfl, hbb, hc⟩ := IntsAt.get i3 (i := x) (by omega)
  have hcw : ∀ w1, Below W.heap.size W w1 → w1.cell? ⟨b, off + x, none⟩ = some (.int .i64 (cs.getD x 0)) := fun w1 h1 => by
    rw [h1.cell (p := ⟨b, off + x, none⟩) (by have := hb.size; show b < _; omega), hb.cell (p := ⟨b, off + x, none⟩) hbb]; exact hc
  have HC := Lib.hid hcw
  have VB := Lib.hid (kb.below hb kb.lt)
  have D : Hid (heldE ws cs x = (decide (0 < ws.getD x 0) && (cs.getD x 0 != 0))) := Lib.hid rfl
  have i0 : (0 : Int) ≤ (x : Int) := by omega
  have i1 : (x : Int) < (cs.length : Int) := by omega
  clear h kb hw hcw hc i3 e2 hb hh
  obtain ⟨z, hz⟩ : ∃ z, z = cs.getD x 0 := ⟨_, rfl⟩
  rw [← hz] at HC D
  clear hz
  show Calls _ _ #[.int .i64 x, .pointer (some ⟨A, 0, none⟩)] _ _
  cases he : decide (0 < ws.getD x 0)
  · rw [he] at I D
    clear he
    go_enter Try.func51, Try.ntmps51
    go_wp2_with fail
    refine I.out.mono ?_
    rintro e w1 ⟨rfl, b1⟩
    have HB := Lib.hid b1
    clear b1
    go_wp2_with fail
    go_ret
    exact ⟨ret_b (by rw [D.out]; rfl), HB.out⟩
  · rw [he] at I D
    clear he
    go_enter Try.func51, Try.ntmps51
    go_wp2_with fail
    refine I.out.mono ?_
    rintro e w1 ⟨rfl, b1⟩
    have HB := Lib.hid b1
    obtain ⟨y0, y1, y2⟩ := (VB.out.below b1 VB.out.lt).cells
    have hc1 := HC.out _ b1
    clear b1 x0 x1 x2
    go_wp2_with fail
    go_ret
    exact ⟨ret_b (by rw [D.out]; rfl), HB.out⟩
set_option maxRecDepth 100000 in
set_option maxHeartbeats 4000000 in
theorem isArmI (ps ws cs : List Int) (v : Value) (w : World) (hn : cs.length ≤ 1048576) (h : ArmV w w.heap.size v ps ws cs) :
    Calls Try.prog 15 #[v] w (Gives (.bool (armB ps ws cs)) w) := by
  have HV := Lib.hid h
  have G := Lib.hid (fun v1 v2 v3 (hv : v = .agg #[v1, v2, v3]) w' (hb : Below w.heap.size w w') => isTreeI ps ws (.agg #[v1, v2]) w' ((show TreeV w w.heap.size _ ps ws by (have h2 := h; rw [hv] at h2; exact h2.tree.1)).boxed hb))
  have HI := Lib.hid (fun v1 v2 v3 (hv : v = .agg #[v1, v2, v3]) (gd : Good ps ws) w' (hb : Below w.heap.size w w') => heightI ps ws (.agg #[v1, v2]) w' gd ((show TreeV w w.heap.size _ ps ws by (have h2 := h; rw [hv] at h2; exact h2.tree.1)).boxed hb))
  have WI := Lib.hid (fun v1 v2 v3 (hv : v = .agg #[v1, v2, v3]) w' (hb : Below w.heap.size w w') => withinI cs v3 (ps.length : Int) 99 w' (by omega) hn (((show IntsV w w.heap.size v3 cs by (have h2 := h; rw [hv] at h2; exact h2.tree.2)).below hb).more hb.size))
  obtain ⟨p1, c1, p2, c2, p3, c3, rfl⟩ := h.shape
  clear h
  have hmf : ∀ (fn : Fn) (first cap : Array Value) (w : World), (Instr.makeFunc fn first cap).run Try.prog w = .ok (.func fn first cap) w := fun _ _ _ _ => rfl
  obtain ⟨wa, hwa⟩ : ∃ wa, wa = w.alloc (.cells #[.slice p1 ps.length c1, .slice p2 ws.length c2, .slice p3 cs.length c3] 31) := ⟨_, rfl⟩
  have B1 : Below w.heap.size w wa := by rw [hwa]; exact (Below.refl w.heap.size w).alloc (Nat.le_refl _) _
  have T1 := Lib.hid (show AKBox wa w.heap.size (.slice p1 ps.length c1) (.slice p2 ws.length c2) (.slice p3 cs.length c3) by rw [hwa]; exact alloc_heap w _)
  have HBA := Lib.hid B1
  clear B1
  have A1 := Lib.hid (armB_good (ps := ps) (ws := ws) (fs := cs))
  have A2 := Lib.hid (armB_size (ps := ps) (ws := ws) (fs := cs))
  have A3 := Lib.hid (armB_deep (ps := ps) (ws := ws) (fs := cs))
  have A4 := Lib.hid (armB_list (ps := ps) (ws := ws) (fs := cs))
  have A5 := Lib.hid (armB_rest (ps := ps) (ws := ws) (fs := cs))
  obtain ⟨R, hR⟩ : ∃ R, R = armB ps ws cs := ⟨_, rfl⟩
  rw [← hR] at A1 A2 A3 A4 A5 ⊢
  clear hR
  obtain ⟨x0, x1, x2⟩ := T1.out.cells
  cases hg : goodT ps ws
  · rw [hg] at G
    have AA := Lib.hid (A1.out hg)
    clear hg
    go_enter Try.func15, Try.ntmps15
    go_wp2_with fail
    rw [← hwa]
    clear hwa
    refine (G.out _ _ _ rfl _ HBA.out).mono ?_
    rintro e w1 ⟨rfl, b1⟩
    have HB1 := Lib.hid (HBA.out.trans (b1.mono HBA.out.size))
    clear b1
    go_wp2_with fail
    go_ret
    exact ⟨ret_b (by rw [AA.out]), HB1.out⟩
  have GD := Lib.hid (Good.of hg)
  rw [hg] at G
  by_cases h9 : ¬ ps.length ≤ 9
  · have AA := Lib.hid (A2.out h9)
    have t1 : ((ps.length : Int) > 9) := by omega
    clear hg h9
    go_enter Try.func15, Try.ntmps15
    go_wp2_with fail
    rw [← hwa]
    clear hwa
    refine (G.out _ _ _ rfl _ HBA.out).mono ?_
    rintro e w1 ⟨rfl, b1⟩
    have HB1 := Lib.hid (HBA.out.trans (b1.mono HBA.out.size))
    clear b1
    go_wp2_with fail
    go_ret
    exact ⟨ret_b (by rw [AA.out]), HB1.out⟩
  have h9' : ps.length ≤ 9 := by omega
  have t1 : ¬ ((ps.length : Int) > 9) := by omega
  by_cases h4 : ¬ deepT ps ≤ 4
  · have AA := Lib.hid (A3.out h4)
    have t2 : deepT ps > 4 := by omega
    clear hg h9 h4
    generalize deepT ps = D at *
    go_enter Try.func15, Try.ntmps15
    go_wp2_with fail
    rw [← hwa]
    clear hwa
    refine (G.out _ _ _ rfl _ HBA.out).mono ?_
    rintro e w1 ⟨rfl, b1⟩
    have HB1 := Lib.hid (HBA.out.trans (b1.mono HBA.out.size))
    have T2 := Lib.hid (T1.out.below b1 T1.out.lt)
    clear b1 x0 x1 x2
    obtain ⟨x0, x1, x2⟩ := T2.out.cells
    go_wp2_with fail
    refine (HI.out _ _ _ rfl GD.out _ HB1.out).mono ?_
    rintro e w2 ⟨rfl, b2⟩
    have HB2 := Lib.hid (HB1.out.trans (b2.mono HB1.out.size))
    clear b2
    go_wp2_with fail
    go_ret
    exact ⟨ret_b (by rw [AA.out]), HB2.out⟩
  have t2 : ¬ deepT ps > 4 := by omega
  have A6 := Lib.hid (fun h => A5.out hg h9' (by omega) h)
  have HW := Lib.hid GD.out.nw
  clear h9 h4 A1 A2 A3 A5
  generalize deepT ps = D at *
  cases hk : (decide ((cs.length : Int) = (ps.length : Int)) && withinB 99 cs)
  · have AA := Lib.hid (A4.out hk)
    rw [hk] at WI
    clear hk hg
    go_enter Try.func15, Try.ntmps15
    go_wp2_with fail
    rw [← hwa]
    clear hwa
    refine (G.out _ _ _ rfl _ HBA.out).mono ?_
    rintro e w1 ⟨rfl, b1⟩
    have HB1 := Lib.hid (HBA.out.trans (b1.mono HBA.out.size))
    have T2 := Lib.hid (T1.out.below b1 T1.out.lt)
    clear b1 x0 x1 x2
    obtain ⟨x0, x1, x2⟩ := T2.out.cells
    go_wp2_with fail
    refine (HI.out _ _ _ rfl GD.out _ HB1.out).mono ?_
    rintro e w2 ⟨rfl, b2⟩
    have HB2 := Lib.hid (HB1.out.trans (b2.mono HB1.out.size))
    have T3 := Lib.hid (T2.out.below b2 T2.out.lt)
    clear b2 x0 x1 x2
    obtain ⟨x0, x1, x2⟩ := T3.out.cells
    go_wp2_with fail
    refine (WI.out _ _ _ rfl _ HB2.out).mono ?_
    rintro e w3 ⟨rfl, b3⟩
    have HB3 := Lib.hid (HB2.out.trans (b3.mono HB2.out.size))
    clear b3
    go_wp2_with fail
    go_ret
    exact ⟨ret_b (by rw [AA.out]), HB3.out⟩
  · have AA := Lib.hid (A6.out hk)
    have HL := Lib.hid (show cs.length = ps.length by
      rw [Bool.and_eq_true, decide_eq_true_iff] at hk
      have := hk.1
      omega)
    rw [hk] at WI
    have ZN := Lib.hid (zeroE_nodes ws cs ps.length)
    clear hk hg
    go_enter Try.func15, Try.ntmps15
    go_wp2_with fail
    rw [← hwa]
    clear hwa
    refine (G.out _ _ _ rfl _ HBA.out).mono ?_
    rintro e w1 ⟨rfl, b1⟩
    have HB1 := Lib.hid (HBA.out.trans (b1.mono HBA.out.size))
    have T2 := Lib.hid (T1.out.below b1 T1.out.lt)
    clear b1 x0 x1 x2
    obtain ⟨x0, x1, x2⟩ := T2.out.cells
    go_wp2_with fail
    refine (HI.out _ _ _ rfl GD.out _ HB1.out).mono ?_
    rintro e w2 ⟨rfl, b2⟩
    have HB2 := Lib.hid (HB1.out.trans (b2.mono HB1.out.size))
    have T3 := Lib.hid (T2.out.below b2 T2.out.lt)
    clear b2 x0 x1 x2
    obtain ⟨x0, x1, x2⟩ := T3.out.cells
    go_wp2_with fail
    refine (WI.out _ _ _ rfl _ HB2.out).mono ?_
    rintro e w3 ⟨rfl, b3⟩
    have HB3 := Lib.hid (HB2.out.trans (b3.mono HB2.out.size))
    have T4 := Lib.hid (T3.out.below b3 T3.out.lt)
    clear b3 x0 x1 x2
    obtain ⟨x0, x1, x2⟩ := T4.out.cells
    have NC := Lib.hid (nodesI ps ws _ 51 #[.pointer (some ⟨w.heap.size, 0, none⟩)] (heldE ws cs) w3 (enters_of Try.func51 (by kernel_rfl) rfl) (by omega) ((HV.out.boxed HB3.out).tree.1)
      (paidPred ps ws cs p1 p2 p3 c1 c2 c3 w3 w.heap.size HW.out HL.out T4.out (HV.out.boxed HB3.out)))
    obtain ⟨N, hN⟩ : ∃ N, N = nodesW (heldE ws cs) ps.length := ⟨_, rfl⟩
    rw [← hN] at NC ZN
    clear hN
    go_wp2_with fail
    refine NC.out.mono ?_
    rintro e w4 ⟨u4, rfl, o4, b4⟩
    obtain ⟨g4, d4, rfl, _⟩ := o4.intsV
    have HB4 := Lib.hid (HB3.out.trans (b4.mono HB3.out.size))
    clear o4 b4
    go_wp2_with fail
    go_ret
    exact ⟨ret_b (by rw [AA.out, ZN.out, Bool.eq_iff_iff]; simp), HB4.out⟩
end Go.Proofs.Ytmidlabgmmejbaa
