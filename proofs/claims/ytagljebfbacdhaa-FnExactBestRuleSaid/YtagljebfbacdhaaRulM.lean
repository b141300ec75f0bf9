/- The first node of a list on the way, and rules, in the model. -/
import Derived.Test.YtagljebfbacdhaaRulP
import Derived.Test.YtagljebfbacdhaaStopM
namespace Go.Proofs.Ytagljebfbacdhaa
open Go.RowKit
set_option linter.unusedVariables false
set_option maxRecDepth 100000 in
set_option maxHeartbeats 4000000 in
theorem stop4S (ps ws ss : List Int) (v u : Value) (x : Nat) (w : World) (gd : Good ps ws) (hx : x < ps.length) (hl : ss.length ≤ 1048576) (h : TreeV w w.heap.size v ps ws) (hu : IntsV w w.heap.size u ss) :
    Calls Try.prog 78 #[v, u, .int .i64 x] w (Gives (.int .i64 ((frsT ps ss).getD x 0)) w) := by
  have WY := Lib.hid (fun w' (hb : Below w.heap.size w w') => wayS ps ws v x w' gd hx (h.boxed hb))
  have HS := Lib.hid (fun w' (hb : Below w.heap.size w w') z => hasS ss z u w.heap.size w' hl (hu.below hb))
  have W := way_all (ParOk.of gd) x hx
  have FS := Lib.hid (fun (k : Nat) hk hb he => fst_search (ParOk.of gd) (p := fun y => inL ss (y : Int)) hx (k := k) hk hb he)
  have FN := Lib.hid (fun hb => fst_none (ParOk.of gd) (p := fun y => inL ss (y : Int)) hx hb)
  have hn24 := gd.n24
  obtain ⟨L, hL⟩ : ∃ L, L = wayT ps (x : Int) := ⟨_, rfl⟩
  have WP : 0 < L.length ∧ L.length ≤ 24 := by rw [hL]; have := W.len; omega
  have WN : Hid (∀ j, j < L.length → 0 ≤ L.getD j 0 ∧ L.getD j 0 < (ps.length : Int)) := Lib.hid (fun j hj => by rw [hL] at hj ⊢; have := W.node j hj; omega)
  obtain ⟨R, hR⟩ : ∃ R, R = (frsT ps ss).getD x 0 := ⟨_, rfl⟩
  change Hid (∀ k : Nat, k < (wayT ps (x : Int)).length → (∀ j, j < k → inL ss ((((wayT ps (x : Int)).getD j 0).toNat : Nat) : Int) = false) → inL ss ((((wayT ps (x : Int)).getD k 0).toNat : Nat) : Int) = true → (frsT ps ss).getD x 0 = (wayT ps (x : Int)).getD k 0) at FS
  change Hid ((∀ j, j < (wayT ps (x : Int)).length → inL ss ((((wayT ps (x : Int)).getD j 0).toNat : Nat) : Int) = false) → (frsT ps ss).getD x 0 = -1) at FN
  rw [← hL] at WY FS FN
  rw [← hR] at FS FN ⊢
  obtain ⟨p1, c1, p2, c2, rfl⟩ := h.shape
  obtain ⟨q, d, rfl, _⟩ := hu
  clear h gd hL hR W
  have B1 := (Below.refl w.heap.size w).alloc (Nat.le_refl _) (.cells #[.slice p1 ps.length c1, .slice p2 ws.length c2] 28)
  have T1 := Lib.hid (show TBox (w.alloc (.cells #[.slice p1 ps.length c1, .slice p2 ws.length c2] 28)) w.heap.size (.slice p1 ps.length c1) (.slice p2 ws.length c2) from alloc_heap w _)
  obtain ⟨x0, x1⟩ := T1.out.cells
  obtain ⟨wa, hwa⟩ : ∃ wa, wa = w.alloc (.cells #[.slice p1 ps.length c1, .slice p2 ws.length c2] 28) := ⟨_, rfl⟩
  rw [← hwa] at B1 T1
  have HBA := Lib.hid B1
  clear B1
  go_enter Try.func78, Try.ntmps78
  go_wp2_with fail
  rw [← hwa]
  clear hwa x0 x1
  refine (WY.out _ HBA.out).mono ?_
  rintro e w1 ⟨uw, rfl, o1, b1⟩
  obtain ⟨g, ce, rfl, hg1, hg2⟩ := o1.shape WP.1
  have HB1 := Lib.hid (HBA.out.trans (b1.mono HBA.out.size))
  have DC := Lib.hid (fun j (hj : j < L.length) => o1.cellGet (j := j) hj)
  have HG := Lib.hid hg2
  obtain ⟨wp0, wp1⟩ := WP
  clear b1 o1 hg1 hg2 T1 HBA WY
  go_wp2
  go_loopw [8] (fun i wr => ∃ k : Nat, k ≤ L.length ∧ i = .int .i64 k ∧ Hid (∀ j, j < k → inL ss (((L.getD j 0).toNat : Nat) : Int) = false) ∧ ∃ n, wr = w1.drewN n) (fun i _ => L.length - (intOf i).toNat)
  case atStart => exact ⟨0, Nat.zero_le _, rfl, Lib.hid (fun j hj => by omega), 0, rfl⟩
  case round =>
    obtain ⟨k, hk, rfl, HA, n, rfl⟩ := hrel
    by_cases hlt : k < L.length
    · have hce : w1.cell? ⟨g, k, none⟩ = some (.int .i64 (L.getD k 0)) := DC.out k hlt
      obtain ⟨n0, n1⟩ := WN.out k hlt
      obtain ⟨y, hy⟩ : ∃ y : Nat, (y : Int) = L.getD k 0 := ⟨(L.getD k 0).toNat, by omega⟩
      have FK := Lib.hid (FS.out k hlt HA.out)
      have NX : Hid (inL ss (y : Int) = false → ∀ j, j < k + 1 → inL ss (((L.getD j 0).toNat : Nat) : Int) = false) := Lib.hid (fun h j hj => by
        rcases Nat.lt_or_ge j k with h' | h'
        · exact HA.out j h'
        · obtain rfl : j = k := by omega
          rw [← hy, Int.toNat_natCast]; exact h)
      rw [← hy] at hce FK n0 n1
      rw [Int.toNat_natCast] at FK
      have C := Lib.hid (HS.out (w1.drewN n) (below_drewN HB1.out n) (y : Int))
      have i0 : (0 : Int) ≤ (k : Int) := by omega
      have i1 : (k : Int) < (L.length : Int) := by omega
      clear hy HA
      obtain ⟨t, ht⟩ : ∃ t, t = inL ss (y : Int) := ⟨_, rfl⟩
      rw [← ht] at C FK NX
      clear ht
      cases t
      · have N2 := Lib.hid (NX.out rfl)
        clear NX FK
        go_wp2_with fail
        refine C.out.mono ?_
        rintro e w2 ⟨rfl, m, rfl⟩
        go_wp2_with fail
        go_roundw
        case rel => exact ⟨k + 1, by omega, by go_num, N2, _, rfl⟩
        case measure => simp [intOf]; omega
      · have RR := Lib.hid (FK.out rfl)
        clear NX FK
        have hce2 : ∀ m : Nat, ((w1.drewN n).drewN m).cell? ⟨g, k, none⟩ = some (.int .i64 (y : Int)) := fun m => hce
        go_wp2_with fail
        refine C.out.mono ?_
        rintro e w2 ⟨rfl, m, rfl⟩
        have hce3 := hce2 m
        go_wp2_with fail
        go_ret
        rw [RR.out]
        exact ⟨rfl, below_drewN HB1.out (n + m)⟩
    · have RR : Hid (R = -1) := Lib.hid (FN.out (fun j hj => HA.out j (by omega)))
      clear HA
      go_wp2_with fail
      go_ret
      rw [RR.out]
      exact ⟨rfl, below_drewN HB1.out n⟩
set_option maxRecDepth 100000 in
set_option maxHeartbeats 4000000 in
theorem rule4S (ps ws ss : List Int) (v u : Value) (w : World) (gd : Good ps ws) (hl : ss.length ≤ 1048576) (h : TreeV w w.heap.size v ps ws) (hu : IntsV w w.heap.size u ss) :
    Calls Try.prog 53 #[v, u] w (Gives (.bool (stopB ps ws ss)) w) := by
  have EN := Lib.hid (fun w' (hb : Below w.heap.size w w') => endsS ps ws v w' (h.boxed hb) gd.n24 (parAll gd))
  have ON := Lib.hid (fun w' (hb : Below w.heap.size w w') (x : Nat) (hx : x < ps.length) => stop4S ps ws ss v u x w' gd hx hl (h.boxed hb) ((hu.below hb).more hb.size))
  have RI := Lib.hid (fun w' (hb : Below w.heap.size w w') => riseS ss ps.length u w.heap.size w' hl (by have := gd.n24; omega) (hu.below hb))
  have NR := Lib.hid (fun h => rule_no_rise (ps := ps) (ws := ws) (ss := ss) h)
  have NE := Lib.hid (fun (x : Nat) hx hl h => rule_no_end (ps := ps) (ws := ws) (ss := ss) (x := x) hx hl h)
  have NN := Lib.hid (fun (i x : Nat) hi hx e h => rule_no_node (ps := ps) (ws := ws) (ss := ss) (i := i) (x := x) hi hx e h)
  have YES := Lib.hid (fun hr he hs => rule_yes (ps := ps) (ws := ws) (ss := ss) gd hr he hs)
  have RA := Lib.hid (fun hr (i : Nat) hi => rule_at (n := ps.length) (ss := ss) hr (i := i) hi)
  have EI := Lib.hid (fun i (hi : i < (endsT ps).length) => ends_in hi)
  have FB := Lib.hid (fun (x : Nat) (hx : x < ps.length) => show -1 ≤ (frsT ps ss).getD x 0 ∧ (frsT ps ss).getD x 0 ≤ (x : Int) from fst_bd (ParOk.of gd) _ x hx)
  have EP := ends_pos gd
  have hn := gd.n24
  have hel := Nat.le_trans (ends_le ps) hn
  obtain ⟨p1, c1, p2, c2, rfl⟩ := h.shape
  obtain ⟨q, cq, rfl, _, _, _, j1⟩ := hu
  have Q1 := Lib.hid j1
  clear h gd j1
  have B1 := (Below.refl w.heap.size w).alloc (Nat.le_refl _) (.cells #[.slice p1 ps.length c1, .slice p2 ws.length c2] 28)
  have T1 := Lib.hid (show TBox (w.alloc (.cells #[.slice p1 ps.length c1, .slice p2 ws.length c2] 28)) w.heap.size (.slice p1 ps.length c1) (.slice p2 ws.length c2) from alloc_heap w _)
  obtain ⟨wa, hwa⟩ : ∃ wa, wa = w.alloc (.cells #[.slice p1 ps.length c1, .slice p2 ws.length c2] 28) := ⟨_, rfl⟩
  rw [← hwa] at B1 T1
  have HBA := Lib.hid B1
  clear B1
  obtain ⟨x0, x1⟩ := T1.out.cells
  obtain ⟨E, hE⟩ : ∃ E, E = endsT ps := ⟨_, rfl⟩
  rw [← hE] at EN YES EP hel EI
  clear hE
  have RIA := Lib.hid (RI.out wa HBA.out)
  cases hr : riB ps.length ss
  · have R := Lib.hid (NR.out hr)
    rw [hr] at RIA
    clear hr NR YES RA
    rw [R.out]
    go_enter Try.func53, Try.ntmps53
    go_wp2_with fail
    rw [← hwa]
    clear hwa
    refine RIA.out.mono ?_
    rintro e w2 ⟨rfl, m, rfl⟩
    have HB2 := Lib.hid (below_drewN HBA.out m)
    go_wp2_with fail
    go_ret
    exact ⟨rfl, HB2.out⟩
  · have YES2 := Lib.hid (YES.out hr)
    have RA2 := Lib.hid (RA.out hr)
    rw [hr] at RIA
    clear hr NR YES RA RI
    go_enter Try.func53, Try.ntmps53
    go_wp2_with fail
    rw [← hwa]
    clear hwa
    refine RIA.out.mono ?_
    rintro e w0 ⟨rfl, m, rfl⟩
    have HB0 := Lib.hid (below_drewN HBA.out m)
    have HT0 : Hid (TBox (wa.drewN m) w.heap.size (.slice p1 ps.length c1) (.slice p2 ws.length c2)) := T1
    obtain ⟨w0, hw0⟩ : ∃ w0, w0 = wa.drewN m := ⟨_, rfl⟩
    rw [← hw0] at HB0 HT0 ⊢
    clear hw0 x0 x1 T1 HBA RIA
    obtain ⟨x0, x1⟩ := HT0.out.cells
    go_wp2_with fail
    refine (EN.out _ HB0.out).mono ?_
    rintro e w1 ⟨ue, rfl, o1, b1⟩
    obtain ⟨g, ce, rfl, hg1, hg2⟩ := o1.shape EP
    have HB1 := Lib.hid (HB0.out.trans (b1.mono HB0.out.size))
    have HT1 := Lib.hid (HT0.out.below b1 HT0.out.lt)
    have DC := Lib.hid (fun j (hj : j < E.length) => o1.cellGet hj)
    have G2 := Lib.hid hg2
    clear b1 x0 x1 o1 hg1 hg2 EN HT0 HB0
    go_wp2
    go_loopw [6] (fun i wr => ∃ k : Nat, k ≤ E.length ∧ i = .int .i64 k ∧ Hid (∀ j, j < k → 0 ≤ (frsT ps ss).getD (E.getD j 0).toNat 0) ∧ Hid (Below w1.heap.size w1 wr)) (fun i _ => E.length - (intOf i).toNat)
    case atStart => exact ⟨0, Nat.zero_le _, rfl, Lib.hid (fun j hj => by omega), Lib.hid (Below.refl _ _)⟩
    case round =>
      obtain ⟨k, hk, rfl, HA, HB⟩ := hrel
      have HBW := Lib.hid (HB1.out.trans (HB.out.mono HB1.out.size))
      have HTW := Lib.hid (HT1.out.below HB.out HT1.out.lt)
      obtain ⟨x0, x1⟩ := HTW.out.cells
      by_cases hlt : k < E.length
      · obtain ⟨x, hx, hxl, hxf⟩ := EI.out k hlt
        have hce : wr.cell? ⟨g, k, none⟩ = some (.int .i64 x) := by rw [HB.out.cell (p := ⟨g, k, none⟩) G2.out, DC.out k hlt, ← hx]
        have C : Hid (∀ w', Hid (Below w1.heap.size w1 w') → Calls Try.prog 78 #[.agg #[.slice p1 ps.length c1, .slice p2 ws.length c2], .slice q ss.length cq, .int .i64 x] w' (Gives (.int .i64 ((frsT ps ss).getD x 0)) w')) := Lib.hid (fun w' hb => ON.out w' (hb_full HB1 hb) x hxl)
        have HDC : Hid (w1.cell? ⟨g, k, none⟩ = some (.int .i64 x)) := Lib.hid (by rw [DC.out k hlt, ← hx])
        have i0 : (0 : Int) ≤ (k : Int) := by omega
        have i1 : (k : Int) < (E.length : Int) := by omega
        have fb := FB.out x hxl
        have NX : Hid (0 ≤ (frsT ps ss).getD x 0 → ∀ j, j < k + 1 → 0 ≤ (frsT ps ss).getD (E.getD j 0).toNat 0) := Lib.hid (fun h j hj => by
          rcases Nat.lt_or_ge j k with h' | h'
          · exact HA.out j h'
          · obtain rfl : j = k := by omega
            rw [← hx, Int.toNat_natCast]; exact h)
        have NK := Lib.hid (NE.out x hxl hxf)
        obtain ⟨r, hrr⟩ : ∃ r, r = (frsT ps ss).getD x 0 := ⟨_, rfl⟩
        rw [← hrr] at C NX NK fb
        clear hx hrr HA
        have KC : Hid (∀ w', Hid (Below w1.heap.size w1 w') → w'.cell? ⟨w.heap.size, 0, none⟩ = some (.slice p1 ps.length c1) ∧ w'.cell? ⟨w.heap.size, 1, none⟩ = some (.slice p2 ws.length c2) ∧ w'.cell? ⟨g, k, none⟩ = some (.int .i64 x)) := Lib.hid (fun w' hb => ⟨(HT1.out.below hb.out HT1.out.lt).cells.1, (HT1.out.below hb.out HT1.out.lt).cells.2, by rw [hb.out.cell (p := ⟨g, k, none⟩) G2.out]; exact HDC.out⟩)
        have HD : Hid (Below w1.heap.size w1 wr.drew) := Lib.hid (below_drew HB.out)
        go_wp2_with fail
        go_region_held3 (fun w' => w'.cell? ⟨w.heap.size, 0, none⟩ = some (.slice p1 ps.length c1) ∧ w'.cell? ⟨w.heap.size, 1, none⟩ = some (.slice p2 ws.length c2) ∧ w'.cell? ⟨g, k, none⟩ = some (.int .i64 x))
          (first | exact KC.out _ HD | exact KC.out _ (by assumption) | go_keep)
          (first
            | (go_at_call 78; (with_reducible refine (C.out _ (by first | exact HD | assumption)).mono ?_); rintro e w2 ⟨rfl, b2⟩; (have HB2 := hb_next (wa := w1) (by first | exact HD | assumption) b2); clear b2))
        all_goals
          have HBX := Lib.hid (hb_full (wa := w1) HB1 HB2)
          clear HD HB HBW
          by_cases h1 : r < 0
          · have R := Lib.hid (NK.out h1)
            clear NX NK
            go_wp2_with fail
            go_ret
            exact ⟨ret_b R.out, HBX.out⟩
          · have N2 := Lib.hid (NX.out (by omega))
            clear NX NK
            go_wp2_with fail
            go_roundw
            case rel => exact ⟨k + 1, by omega, by go_num, N2, HB2⟩
            case measure => simp [intOf]; omega
      · have YES3 := Lib.hid (YES2.out (fun j hj => HA.out j (by omega)))
        clear HA YES2 NE
        go_wp2_with fail
        go_loopw [7] (fun i wq => ∃ k : Nat, k ≤ ss.length ∧ i = .int .i64 k ∧ Hid (∀ j, j < k → (frsT ps ss).getD (ss.getD j 0).toNat 0 = ss.getD j 0) ∧ Hid (Below w1.heap.size w1 wq)) (fun i _ => ss.length - (intOf i).toNat)
        case atStart => exact ⟨0, Nat.zero_le _, rfl, Lib.hid (fun j hj => by omega), HB⟩
        case round =>
          clear x0 x1
          obtain ⟨k, hk, rfl, HA, HB⟩ := hrel
          have HBW := Lib.hid (HB1.out.trans (HB.out.mono HB1.out.size))
          have HTW := Lib.hid (HT1.out.below HB.out HT1.out.lt)
          obtain ⟨x0, x1⟩ := HTW.out.cells
          by_cases hlt : k < ss.length
          · obtain ⟨z0, z1⟩ := RA2.out k hlt
            obtain ⟨x, hx⟩ : ∃ x : Nat, (x : Int) = ss.getD k 0 := ⟨(ss.getD k 0).toNat, by omega⟩
            have hxl : x < ps.length := by omega
            obtain ⟨b, off, hq, hb, hc⟩ := Q1.out.get hlt
            subst hq
            have HCE : Hid (∀ w', Hid (Below w1.heap.size w1 w') → w'.cell? ⟨b, off + k, none⟩ = some (.int .i64 x)) := Lib.hid (fun w' hb' => by rw [(hb_full HB1 hb').cell (p := ⟨b, off + k, none⟩) hb, hc, ← hx])
            have hce := HCE.out wr HB
            have C : Hid (∀ w', Hid (Below w1.heap.size w1 w') → Calls Try.prog 78 #[.agg #[.slice p1 ps.length c1, .slice p2 ws.length c2], .slice (some ⟨b, off, none⟩) ss.length cq, .int .i64 x] w' (Gives (.int .i64 ((frsT ps ss).getD x 0)) w')) := Lib.hid (fun w' hb => ON.out w' (hb_full HB1 hb) x hxl)
            have i0 : (0 : Int) ≤ (k : Int) := by omega
            have i1 : (k : Int) < (ss.length : Int) := by omega
            have fb := FB.out x hxl
            have NX : Hid ((frsT ps ss).getD x 0 = (x : Int) → ∀ j, j < k + 1 → (frsT ps ss).getD (ss.getD j 0).toNat 0 = ss.getD j 0) := Lib.hid (fun h j hj => by
              rcases Nat.lt_or_ge j k with h' | h'
              · exact HA.out j h'
              · obtain rfl : j = k := by omega
                rw [← hx, Int.toNat_natCast]; exact h)
            have NK := Lib.hid (NN.out k x hlt hxl hx.symm)
            obtain ⟨r, hrr⟩ : ∃ r, r = (frsT ps ss).getD x 0 := ⟨_, rfl⟩
            rw [← hrr] at C NX NK fb
            clear hx hrr HA hc hb
            have KC : Hid (∀ w', Hid (Below w1.heap.size w1 w') → w'.cell? ⟨w.heap.size, 0, none⟩ = some (.slice p1 ps.length c1) ∧ w'.cell? ⟨w.heap.size, 1, none⟩ = some (.slice p2 ws.length c2) ∧ w'.cell? ⟨b, off + k, none⟩ = some (.int .i64 x)) := Lib.hid (fun w' hb => ⟨(HT1.out.below hb.out HT1.out.lt).cells.1, (HT1.out.below hb.out HT1.out.lt).cells.2, HCE.out w' hb⟩)
            have HD : Hid (Below w1.heap.size w1 wr.drew) := Lib.hid (below_drew HB.out)
            go_wp2_with fail
            go_region_held3 (fun w' => w'.cell? ⟨w.heap.size, 0, none⟩ = some (.slice p1 ps.length c1) ∧ w'.cell? ⟨w.heap.size, 1, none⟩ = some (.slice p2 ws.length c2) ∧ w'.cell? ⟨b, off + k, none⟩ = some (.int .i64 x))
              (first | exact KC.out _ HD | exact KC.out _ (by assumption) | go_keep)
              (first
                | (go_at_call 78; (with_reducible refine (C.out _ (by first | exact HD | assumption)).mono ?_); rintro e w2 ⟨rfl, b2⟩; (have HB2 := hb_next (wa := w1) (by first | exact HD | assumption) b2); clear b2))
            all_goals
              have HBX := Lib.hid (hb_full (wa := w1) HB1 HB2)
              clear HD HB HBW
              by_cases h1 : r = (x : Int)
              · have N2 := Lib.hid (NX.out h1)
                have hne : (r != (x : Int)) = false := by simp [h1]
                clear NX NK
                go_wp2_with fail
                go_roundw
                case rel => exact ⟨k + 1, by omega, by go_num, N2, HB2⟩
                case measure => simp [intOf]; omega
              · have R := Lib.hid (NK.out h1)
                have hne : (r != (x : Int)) = true := by simpa using h1
                clear NX NK
                go_wp2_with fail
                go_ret
                exact ⟨ret_b R.out, HBX.out⟩
          · have R := Lib.hid (YES3.out (fun j hj => HA.out j (by omega)))
            clear HA
            go_wp2_with fail
            go_ret
            exact ⟨ret_b R.out, HBW.out⟩
end Go.Proofs.Ytagljebfbacdhaa
