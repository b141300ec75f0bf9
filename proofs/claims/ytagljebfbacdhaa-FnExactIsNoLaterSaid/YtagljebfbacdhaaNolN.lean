/- NolM in one text. -/
import Derived.Test.YtagljebfbacdhaaTwoM
import Derived.Test.YtagljebfbacdhaaNolQ
import Derived.Test.YtagljebfbacdhaaEndsL
namespace Go.Proofs.Ytagljebfbacdhaa
open Go.RowKit
set_option linter.unusedVariables false
set_option maxRecDepth 100000 in
set_option maxHeartbeats 8000000 in
theorem nolM (ps ws a b : List Int) (v u1 u2 : Value) (w : World) (hn1 : a.length ≤ 1048576) (hn2 : b.length ≤ 1048576) (h : TreeV w w.heap.size v ps ws) (hu : IntsV w w.heap.size u1 a) (hv : IntsV w w.heap.size u2 b) :
    Calls Try.prog 43 #[v, u1, u2] w (Gives (nolV ps ws a b) w) := by
  have PC := Lib.hid (fun w' (hb : Below w.heap.size w w') => two4S ps ws a b v u1 u2 w' hn1 hn2 (h.boxed hb) ((hu.below hb).more hb.size) ((hv.below hb).more hb.size))
  have EN := Lib.hid (fun (gd : Good ps ws) w' (hb : Below w.heap.size w w') => endsS ps ws v w' (h.boxed hb) gd.n24 (parAll gd))
  have SA := Lib.hid (fun (gd : Good ps ws) (x : Nat) (hx : x < ps.length) w' (hb : Below w.heap.size w w') => stop4S ps ws a v u1 x w' gd hx hn1 (h.boxed hb) ((hu.below hb).more hb.size))
  have SB := Lib.hid (fun (gd : Good ps ws) (x : Nat) (hx : x < ps.length) w' (hb : Below w.heap.size w w') => stop4S ps ws b v u2 x w' gd hx hn2 (h.boxed hb) ((hv.below hb).more hb.size))
  obtain ⟨p1, c1, p2, c2, rfl⟩ := h.shape
  obtain ⟨q1, d1, rfl, _⟩ := hu
  obtain ⟨q2, d2, rfl, _⟩ := hv
  clear h
  have B1 := (Below.refl w.heap.size w).alloc (Nat.le_refl _) (.cells #[.slice p1 ps.length c1, .slice p2 ws.length c2] 28)
  have T1 := Lib.hid (show TBox (w.alloc (.cells #[.slice p1 ps.length c1, .slice p2 ws.length c2] 28)) w.heap.size (.slice p1 ps.length c1) (.slice p2 ws.length c2) from alloc_heap w _)
  obtain ⟨x0, x1⟩ := T1.out.cells
  obtain ⟨wa, hwa⟩ : ∃ wa, wa = w.alloc (.cells #[.slice p1 ps.length c1, .slice p2 ws.length c2] 28) := ⟨_, rfl⟩
  rw [← hwa] at B1 T1
  have HBA := Lib.hid B1
  clear B1
  have DV : Hid (nolV ps ws a b = .tuple #[.bool (nolB ps ws a b), .bool (twoB ps ws a b)]) := Lib.hid rfl
  cases hp : twoB ps ws a b
  · rw [hp] at PC
    have R : Hid (nolV ps ws a b = .tuple #[.bool false, .bool false]) := Lib.hid (by rw [DV.out, hp]; unfold nolB; rw [hp]; rfl)
    rw [R.out]
    clear hp EN SA SB DV
    go_enter Try.func43, Try.ntmps43
    go_wp2_with fail
    rw [← hwa]
    clear hwa x0 x1
    refine (PC.out _ HBA.out).mono ?_
    rintro e w1 ⟨rfl, b1⟩
    have HB1 := Lib.hid (HBA.out.trans (b1.mono HBA.out.size))
    clear b1
    go_wp2_with fail
    go_ret2
    exact ⟨rfl, HB1.out⟩
  · rw [hp] at PC
    have ST : Stop ps ws a ∧ Stop ps ws b := by unfold twoB at hp; rw [Bool.and_eq_true] at hp; exact ⟨stopB_iff.1 hp.1, stopB_iff.1 hp.2⟩
    obtain ⟨sa, sb⟩ := ST
    have gd := sa.good
    have hn24 := gd.n24
    have hn0 := gd.n1
    rw [hp] at DV
    have EN2 := Lib.hid (EN.out gd)
    have SA2 := Lib.hid (SA.out gd)
    have SB2 := Lib.hid (SB.out gd)
    have EP := ends_pos gd
    have hel := Nat.le_trans (ends_le ps) hn24
    have EI := Lib.hid (fun i (hi : i < (endsT ps).length) => ends_in hi)
    have FA := Lib.hid (fun (x : Nat) (hx : x < ps.length) => sa.frs hx)
    have FB := Lib.hid (fun (x : Nat) (hx : x < ps.length) => sb.frs hx)
    have NO := Lib.hid (fun (k : Nat) hk h => nol_no sa sb (k := k) hk h)
    have YES := Lib.hid (fun h => nol_yes sa sb h)
    clear hp EN SA SB gd sa sb
    obtain ⟨E, hE⟩ : ∃ E, E = endsT ps := ⟨_, rfl⟩
    rw [← hE] at EN2 EP hel EI NO YES
    clear hE
    go_enter Try.func43, Try.ntmps43
    go_wp2_with fail
    rw [← hwa]
    clear hwa x0 x1
    refine (PC.out _ HBA.out).mono ?_
    rintro e w1 ⟨rfl, b1⟩
    have HB1 := Lib.hid (HBA.out.trans (b1.mono HBA.out.size))
    have HT1 := Lib.hid (T1.out.below b1 T1.out.lt)
    clear b1
    obtain ⟨x0, x1⟩ := HT1.out.cells
    go_wp2_with fail
    refine (EN2.out _ HB1.out).mono ?_
    rintro e w2 ⟨ue, rfl, o2, b2⟩
    obtain ⟨g, ce, rfl, hg1, hg2⟩ := o2.shape EP
    have HB2 := Lib.hid (HB1.out.trans (b2.mono HB1.out.size))
    have HT2 := Lib.hid (HT1.out.below b2 HT1.out.lt)
    have DC := Lib.hid (fun j (hj : j < E.length) => o2.cellGet (j := j) hj)
    have HG := Lib.hid hg2
    clear b2 o2 x0 x1 hg1 hg2 HB1 HT1 T1 HBA
    go_wp2
    go_loopw [9] (fun i wr => ∃ k : Nat, k ≤ E.length ∧ i = .int .i64 k ∧ Hid (∀ j, j < k → (nodT ps a).getD (E.getD j 0).toNat 0 ≤ (nodT ps b).getD (E.getD j 0).toNat 0) ∧ Hid (Below w2.heap.size w2 wr)) (fun i _ => E.length - (intOf i).toNat)
    case atStart => exact ⟨0, Nat.zero_le _, rfl, Lib.hid (fun j hj => by omega), Lib.hid (Below.refl _ _)⟩
    case round =>
      obtain ⟨k, hk, rfl, HA, HB⟩ := hrel
      have HBW := Lib.hid (HB2.out.trans (HB.out.mono HB2.out.size))
      have HT := Lib.hid (HT2.out.below HB.out HT2.out.lt)
      by_cases hlt : k < E.length
      · obtain ⟨x, hx, hxl, hxf⟩ := EI.out k hlt
        have hce := (HB.out.cell (p := ⟨g, k, none⟩) HG.out).trans (DC.out k hlt)
        rw [← hx] at hce
        have hgw : g < wr.heap.size := Nat.lt_of_lt_of_le HG.out HB.out.size
        have CA : Hid (∀ w', Hid (Below wr.heap.size wr w') → Calls Try.prog 78 #[.agg #[.slice p1 ps.length c1, .slice p2 ws.length c2], .slice q1 a.length d1, .int .i64 (x : Int)] w' (Gives (.int .i64 ((nodT ps a).getD x 0)) w')) := Lib.hid (fun w' hb => by rw [← FA.out x hxl]; exact SA2.out x hxl w' (hb_full HBW hb))
        have CB : Hid (∀ w', Hid (Below wr.heap.size wr w') → Calls Try.prog 78 #[.agg #[.slice p1 ps.length c1, .slice p2 ws.length c2], .slice q2 b.length d2, .int .i64 (x : Int)] w' (Gives (.int .i64 ((nodT ps b).getD x 0)) w')) := Lib.hid (fun w' hb => by rw [← FB.out x hxl]; exact SB2.out x hxl w' (hb_full HBW hb))
        have KC : Hid (∀ w', Hid (Below wr.heap.size wr w') → w'.cell? ⟨w.heap.size, 0, none⟩ = some (.slice p1 ps.length c1) ∧ w'.cell? ⟨w.heap.size, 1, none⟩ = some (.slice p2 ws.length c2) ∧ w'.cell? ⟨g, k, none⟩ = some (.int .i64 (x : Int))) := Lib.hid (fun w' hb => ⟨(HT.out.below hb.out HT.out.lt).cells.1, (HT.out.below hb.out HT.out.lt).cells.2, (hb.out.cell (p := ⟨g, k, none⟩) hgw).trans hce⟩)
        have HD : Hid (Below wr.heap.size wr wr.drew) := Lib.hid (below_drew (Below.refl _ _))
        obtain ⟨x0, x1⟩ := HT.out.cells
        have i0 : (0 : Int) ≤ (k : Int) := by omega
        have i1 : (k : Int) < (E.length : Int) := by omega
        have NX : Hid ((nodT ps a).getD x 0 ≤ (nodT ps b).getD x 0 → ∀ j, j < k + 1 → (nodT ps a).getD (E.getD j 0).toNat 0 ≤ (nodT ps b).getD (E.getD j 0).toNat 0) := Lib.hid (fun h j hj => by
          rcases Nat.lt_or_ge j k with h' | h'
          · exact HA.out j h'
          · obtain rfl : j = k := by omega
            rw [← hx, Int.toNat_natCast]; exact h)
        have NK : Hid ((nodT ps b).getD x 0 < (nodT ps a).getD x 0 → nolB ps ws a b = false) := Lib.hid (fun h => NO.out k hlt (by rw [← hx, Int.toNat_natCast]; exact h))
        obtain ⟨na, hna⟩ : ∃ na, na = (nodT ps a).getD x 0 := ⟨_, rfl⟩
        obtain ⟨nb, hnb⟩ : ∃ nb, nb = (nodT ps b).getD x 0 := ⟨_, rfl⟩
        rw [← hna] at CA NX NK
        rw [← hnb] at CB NX NK
        clear hx hce hna hnb HA
        go_wp2_with fail
        go_region_held3 (fun w' => w'.cell? ⟨w.heap.size, 0, none⟩ = some (.slice p1 ps.length c1) ∧ w'.cell? ⟨w.heap.size, 1, none⟩ = some (.slice p2 ws.length c2) ∧ w'.cell? ⟨g, k, none⟩ = some (.int .i64 (x : Int)))
          (first | with_reducible exact KC.out _ HB7 | with_reducible exact KC.out _ HB6 | with_reducible exact KC.out _ HD | go_keep)
          (first
            | (go_at_call 78; (with_reducible refine (CA.out _ HD).mono ?_); rintro e w6 ⟨rfl, b6⟩; (have HB6 := hb_next (wa := wr) HD b6); clear b6)
            | (go_at_call 78; (with_reducible refine (CB.out _ HB6).mono ?_); rintro e w7 ⟨rfl, b7⟩; (have HB7 := hb_next (wa := wr) HB6 b7); clear b7))
        all_goals
          have HBX := Lib.hid (HB.out.trans (HB7.out.mono HB.out.size))
          have HBY := Lib.hid (HB2.out.trans (HBX.out.mono HB2.out.size))
          by_cases h1 : na ≤ nb
          · have N2 := Lib.hid (NX.out h1)
            have h2 : ¬ na > nb := by omega
            clear NX NK
            go_wp2_with fail
            go_roundw
            case rel => exact ⟨k + 1, by omega, by go_num, N2, HBX⟩
            case measure => simp [intOf]; omega
          · have R : Hid (nolV ps ws a b = .tuple #[.bool false, .bool true]) := Lib.hid (by rw [DV.out, NK.out (by omega)])
            have h2 : na > nb := by omega
            clear NX NK
            go_wp2_with fail
            go_ret2
            rw [R.out]
            exact ⟨rfl, HBY.out⟩
      · have R : Hid (nolV ps ws a b = .tuple #[.bool true, .bool true]) := Lib.hid (by rw [DV.out, YES.out (fun j hj => HA.out j (by omega))])
        clear HA
        go_wp2
        go_ret2
        rw [R.out]
        exact ⟨rfl, HBW.out⟩
end Go.Proofs.Ytagljebfbacdhaa
