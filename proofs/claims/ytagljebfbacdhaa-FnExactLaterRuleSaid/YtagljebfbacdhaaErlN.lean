/- PutO, TwoM, ErlM in one text. -/
import Derived.Test.YtagljebfbacdhaaPutS
import Derived.Test.YtagljebfbacdhaaRulM
import Derived.Test.YtagljebfbacdhaaPickP
import Derived.Test.YtagljebfbacdhaaGoodS
import Derived.Test.YtagljebfbacdhaaPickM
import Derived.Deep.LoopGhost
namespace Go.Proofs.Ytagljebfbacdhaa
open Go.RowKit
set_option linter.unusedVariables false
theorem putO (l : List Int) (n : Int) (b cq lo : Nat) (w : World) (hl : l.length ≤ 1000) (hn : InI64 n) (hlo : lo ≤ w.heap.size) (ho : OwnV w lo w.heap.size (.slice (some ⟨b, 0, none⟩) l.length cq) l) :
    Calls Try.prog 76 #[.slice (some ⟨b, 0, none⟩) l.length cq, .int .i64 n] w (fun e w' => ∃ g c, e = .returned (.slice (some ⟨g, 0, none⟩) (putL l n).length c) ∧ OwnV w' lo w'.heap.size (.slice (some ⟨g, 0, none⟩) (putL l n).length c) (putL l n) ∧ Below w.heap.size w w') := by
  refine (putS l n b 0 cq w hl hn ho.intsV).mono ?_
  rintro e w' ⟨b11, ⟨rfl, hsame⟩ | ⟨g, c, rfl, o⟩⟩
  · exact ⟨b, cq, by rw [hsame], by rw [hsame]; exact (ho.below b11).wide b11.size (Nat.le_refl _), b11⟩
  · exact ⟨g, c, rfl, o.low hlo, b11⟩
end Go.Proofs.Ytagljebfbacdhaa
namespace Go.Proofs.Ytagljebfbacdhaa
open Go.RowKit
set_option linter.unusedVariables false
set_option maxRecDepth 100000 in
set_option maxHeartbeats 2000000 in
theorem two4S (ps ws a b : List Int) (v u1 u2 : Value) (w : World) (hn1 : a.length ≤ 1048576) (hn2 : b.length ≤ 1048576) (h : TreeV w w.heap.size v ps ws) (hu : IntsV w w.heap.size u1 a) (hv : IntsV w w.heap.size u2 b) :
    Calls Try.prog 74 #[v, u1, u2] w (Gives (.bool (twoB ps ws a b)) w) := by
  have G := Lib.hid (fun w' (hb : Below w.heap.size w w') => goodS ps ws v w' (h.boxed hb))
  have SA := Lib.hid (fun (gd : Good ps ws) w' (hb : Below w.heap.size w w') => rule4S ps ws a v u1 w' gd hn1 (h.boxed hb) ((hu.below hb).more hb.size))
  have SB := Lib.hid (fun (gd : Good ps ws) w' (hb : Below w.heap.size w w') => rule4S ps ws b v u2 w' gd hn2 (h.boxed hb) ((hv.below hb).more hb.size))
  obtain ⟨p1, c1, p2, c2, rfl⟩ := h.shape
  obtain ⟨q1, d1, rfl, _⟩ := hu
  obtain ⟨q2, d2, rfl, _⟩ := hv
  clear h
  have B1 := Lib.hid ((Below.refl w.heap.size w).alloc (Nat.le_refl _) (.cells #[.slice p1 ps.length c1, .slice p2 ws.length c2] 28))
  have T1 := Lib.hid (show TBox (w.alloc (.cells #[.slice p1 ps.length c1, .slice p2 ws.length c2] 28)) w.heap.size (.slice p1 ps.length c1) (.slice p2 ws.length c2) from alloc_heap w _)
  obtain ⟨x0, x1⟩ := T1.out.cells
  obtain ⟨wa, hwa⟩ : ∃ wa, wa = w.alloc (.cells #[.slice p1 ps.length c1, .slice p2 ws.length c2] 28) := ⟨_, rfl⟩
  rw [← hwa] at B1 T1
  have D : Hid (twoB ps ws a b = (stopB ps ws a && stopB ps ws b)) := Lib.hid rfl
  cases hg : goodT ps ws
  · have R := Lib.hid (show twoB ps ws a b = false by rw [D.out, show stopB ps ws a = false by unfold stopB; rw [hg]; rfl]; rfl)
    rw [hg] at G
    rw [R.out]
    clear hg SA SB
    go_enter Try.func74, Try.ntmps74
    go_wp2_with fail
    rw [← hwa]
    clear hwa x0 x1
    refine (G.out _ B1.out).mono ?_
    rintro e w1 ⟨rfl, b1⟩
    have HB1 := Lib.hid (B1.out.trans (b1.mono B1.out.size))
    clear b1
    go_wp2_with fail
    go_ret
    exact ⟨rfl, HB1.out⟩
  · have SA2 := Lib.hid (SA.out (Good.of hg))
    have SB2 := Lib.hid (SB.out (Good.of hg))
    rw [hg] at G
    clear hg SA SB
    cases hsa : stopB ps ws a
    · have R := Lib.hid (show twoB ps ws a b = false by rw [D.out, hsa]; rfl)
      rw [hsa] at SA2
      rw [R.out]
      clear hsa
      go_enter Try.func74, Try.ntmps74
      go_wp2_with fail
      rw [← hwa]
      clear hwa x0 x1
      refine (G.out _ B1.out).mono ?_
      rintro e w1 ⟨rfl, b1⟩
      have HB1 := Lib.hid (B1.out.trans (b1.mono B1.out.size))
      obtain ⟨y0, y1⟩ := (T1.out.below b1 T1.out.lt).cells
      clear b1
      go_wp2_with fail
      refine (SA2.out _ HB1.out).mono ?_
      rintro e w2 ⟨rfl, b2⟩
      have HB2 := Lib.hid (HB1.out.trans (b2.mono HB1.out.size))
      clear b2
      go_wp2_with fail
      go_ret
      exact ⟨rfl, HB2.out⟩
    · rw [hsa] at SA2
      have R := Lib.hid (show twoB ps ws a b = stopB ps ws b by rw [D.out, hsa]; rfl)
      rw [R.out]
      clear hsa D R
      generalize stopB ps ws b = tb at *
      go_enter Try.func74, Try.ntmps74
      go_wp2_with fail
      rw [← hwa]
      clear hwa x0 x1
      refine (G.out _ B1.out).mono ?_
      rintro e w1 ⟨rfl, b1⟩
      have HB1 := Lib.hid (B1.out.trans (b1.mono B1.out.size))
      have HT1 := Lib.hid (T1.out.below b1 T1.out.lt)
      obtain ⟨y0, y1⟩ := HT1.out.cells
      clear b1
      go_wp2_with fail
      refine (SA2.out _ HB1.out).mono ?_
      rintro e w2 ⟨rfl, b2⟩
      have HB2 := Lib.hid (HB1.out.trans (b2.mono HB1.out.size))
      obtain ⟨z0, z1⟩ := (HT1.out.below b2 HT1.out.lt).cells
      clear b2 y0 y1
      go_wp2_with fail
      refine (SB2.out _ HB2.out).mono ?_
      rintro e w3 ⟨rfl, b3⟩
      have HB3 := Lib.hid (HB2.out.trans (b3.mono HB2.out.size))
      clear b3
      go_wp2_with fail
      go_ret
      exact ⟨rfl, HB3.out⟩
end Go.Proofs.Ytagljebfbacdhaa
namespace Go.Proofs.Ytagljebfbacdhaa
open Go.RowKit
set_option linter.unusedVariables false
set_option maxRecDepth 100000 in
set_option maxHeartbeats 8000000 in
theorem ruleMErl (ps ws a b : List Int) (v u1 u2 : Value) (w : World) (hn1 : a.length ≤ 1048576) (hn2 : b.length ≤ 1048576) (h : TreeV w w.heap.size v ps ws) (hu : IntsV w w.heap.size u1 a) (hv : IntsV w w.heap.size u2 b) :
    Calls Try.prog 39 #[v, u1, u2] w (NewIntsB (ifTwo ps ws a b (pickT ps a b false)) (twoB ps ws a b) w) := by
  have PC := Lib.hid (fun w' (hb : Below w.heap.size w w') => two4S ps ws a b v u1 u2 w' hn1 hn2 (h.boxed hb) ((hu.below hb).more hb.size) ((hv.below hb).more hb.size))
  have EN := Lib.hid (fun (gd : Good ps ws) w' (hb : Below w.heap.size w w') => endsS ps ws v w' (h.boxed hb) gd.n24 (parAll gd))
  have SA := Lib.hid (fun (gd : Good ps ws) (x : Nat) (hx : x < ps.length) w' (hb : Below w.heap.size w w') => stop4S ps ws a v u1 x w' gd hx hn1 (h.boxed hb) ((hu.below hb).more hb.size))
  have SB := Lib.hid (fun (gd : Good ps ws) (x : Nat) (hx : x < ps.length) w' (hb : Below w.heap.size w w') => stop4S ps ws b v u2 x w' gd hx hn2 (h.boxed hb) ((hv.below hb).more hb.size))
  obtain ⟨p1, c1, p2, c2, rfl⟩ := h.shape
  obtain ⟨q1, d1, rfl, _⟩ := hu
  obtain ⟨q2, d2, rfl, _⟩ := hv
  clear h
  have B1 := ((Below.refl w.heap.size w).alloc (Nat.le_refl _) (.cells #[.slice p1 ps.length c1, .slice p2 ws.length c2] 28)).alloc (by simp) (.cells #[] 3)
  have T1 := Lib.hid (TBox.alloc (show TBox (w.alloc (.cells #[.slice p1 ps.length c1, .slice p2 ws.length c2] 28)) w.heap.size (.slice p1 ps.length c1) (.slice p2 ws.length c2) from alloc_heap w _) (.cells #[] 3))
  have O1 := Lib.hid (OwnV.empty (w.alloc (.cells #[.slice p1 ps.length c1, .slice p2 ws.length c2] 28)) w.heap.size (by simp))
  rw [show (w.alloc (.cells #[.slice p1 ps.length c1, .slice p2 ws.length c2] 28)).heap.size = w.heap.size + 1 by simp] at O1
  obtain ⟨x0, x1⟩ := T1.out.cells
  obtain ⟨wa, hwa⟩ : ∃ wa, wa = (w.alloc (.cells #[.slice p1 ps.length c1, .slice p2 ws.length c2] 28)).alloc (.cells #[] 3) := ⟨_, rfl⟩
  rw [← hwa] at B1 T1 O1
  have HBA := Lib.hid B1
  clear B1
  cases hp : twoB ps ws a b
  · rw [hp] at PC
    have IS := Lib.hid (show ifTwo ps ws a b (pickT ps a b false) = [] by unfold ifTwo; rw [hp]; rfl)
    rw [IS.out]
    clear hp EN SA SB
    go_enter Try.func39, Try.ntmps39
    go_wp2_with fail
    rw [← hwa]
    clear hwa
    refine (PC.out _ HBA.out).mono ?_
    rintro e w1 ⟨rfl, b1⟩
    have FIN : Hid (NewIntsB [] false w (.returned (.tuple #[.slice (some ⟨w.heap.size + 1, 0, none⟩) 0 0, .bool false])) w1) := Lib.hid ⟨_, rfl, (O1.out.below b1).wide b1.size (Nat.le_refl _), HBA.out.trans (b1.mono HBA.out.size)⟩
    clear b1
    go_wp2_with fail
    go_ret2
    exact FIN.out
  · rw [hp] at PC
    have IS := Lib.hid (show ifTwo ps ws a b (pickT ps a b false) = pickT ps a b false by unfold ifTwo; rw [hp]; rfl)
    have ST : Stop ps ws a ∧ Stop ps ws b := by unfold twoB at hp; rw [Bool.and_eq_true] at hp; exact ⟨stopB_iff.1 hp.1, stopB_iff.1 hp.2⟩
    obtain ⟨sa, sb⟩ := ST
    have gd := sa.good
    have hn24 := gd.n24
    have hn0 := gd.n1
    have EN2 := Lib.hid (EN.out gd)
    have SA2 := Lib.hid (SA.out gd)
    have SB2 := Lib.hid (SB.out gd)
    have EP := ends_pos gd
    have hel := Nat.le_trans (ends_le ps) hn24
    have EI := Lib.hid (fun i (hi : i < (endsT ps).length) => ends_in hi)
    have FA := Lib.hid (fun (x : Nat) (hx : x < ps.length) => sa.frs hx)
    have FB := Lib.hid (fun (x : Nat) (hx : x < ps.length) => sb.frs hx)
    have PA := Lib.hid (fun k (hk : k < (endsT ps).length) => pickC_at ps a b false hk)
    have PI := Lib.hid (fun k (hk : k < (endsT ps).length) => pickC_in sa sb false hk)
    obtain ⟨C, hC⟩ : ∃ C, C = pickC ps a b false := ⟨_, rfl⟩
    have CLN : Hid (C.length = (endsT ps).length) := Lib.hid (by rw [hC, pickC_len])
    have PT := Lib.hid (fun (k x : Nat) (hk : k < C.length) (hx : C.getD k 0 = (x : Int)) (h : x < ps.length) => put_take hk hx h)
    have Z0 : Hid (nodesW (fun y => inL (C.take 0) (y : Int)) ps.length = []) := Lib.hid (by
      rw [List.take_zero]
      unfold nodesW
      rw [List.map_eq_nil_iff, List.filter_eq_nil_iff]
      intro y _
      unfold inL; simp)
    have ALL : Hid (∀ k, C.length ≤ k → nodesW (fun y => inL (C.take k) (y : Int)) ps.length = pickT ps a b false) := Lib.hid (fun k hk => by rw [List.take_of_length_le hk, hC]; rfl)
    have NL := Lib.hid (fun k => nodesW_len (fun y => inL (C.take k) (y : Int)) ps.length)
    rw [← hC] at PA PI
    rw [IS.out]
    clear hp EN SA SB gd hC sa sb
    obtain ⟨E, hE⟩ : ∃ E, E = endsT ps := ⟨_, rfl⟩
    rw [← hE] at EN2 EP hel EI CLN PA PI
    clear hE
    go_enter Try.func39, Try.ntmps39
    go_wp2_with fail
    rw [← hwa]
    clear hwa
    refine (PC.out _ HBA.out).mono ?_
    rintro e w1 ⟨rfl, b1⟩
    have HB1 := Lib.hid (HBA.out.trans (b1.mono HBA.out.size))
    have HT1 := Lib.hid (T1.out.below b1 T1.out.lt)
    have HO1 := Lib.hid ((O1.out.below b1).wide b1.size (Nat.le_refl _))
    clear b1 x0 x1
    obtain ⟨x0, x1⟩ := HT1.out.cells
    go_wp2_with fail
    refine (EN2.out _ HB1.out).mono ?_
    rintro e w2 ⟨ue, rfl, o2, b2⟩
    obtain ⟨g, ce, rfl, hg1, hg2⟩ := o2.shape EP
    have HB2 := Lib.hid (HB1.out.trans (b2.mono HB1.out.size))
    have HT2 := Lib.hid (HT1.out.below b2 HT1.out.lt)
    have HO2 := Lib.hid ((HO1.out.below b2).wide b2.size (Nat.le_refl _))
    have DC := Lib.hid (fun j (hj : j < E.length) => o2.cellGet (j := j) hj)
    have HG := Lib.hid hg2
    clear b2 o2 x0 x1 hg1 hg2 HB1 HT1 HO1 T1 O1 HBA
    go_wp2
    go_loopg [8, 10] E.length (fun gg o i wr => ∃ k : Nat, k ≤ E.length ∧ E.length - k ≤ gg ∧ i = .int .i64 k ∧ (∃ go co, o = .slice (some ⟨go, 0, none⟩) (nodesW (fun y => inL (C.take k) (y : Int)) ps.length).length co) ∧ Hid (OwnV wr w.heap.size wr.heap.size o (nodesW (fun y => inL (C.take k) (y : Int)) ps.length)) ∧ Hid (Below w2.heap.size w2 wr))
    case atStart => exact ⟨0, Nat.zero_le _, by omega, rfl, ⟨_, _, by rw [Z0.out]; rfl⟩, Lib.hid (by rw [Z0.out]; exact HO2.out), Lib.hid (Below.refl _ _)⟩
    case round =>
      obtain ⟨k, hk, hgg, rfl, ⟨go, co, rfl⟩, HO, HB⟩ := hrel
      have HBW := Lib.hid (HB2.out.trans (HB.out.mono HB2.out.size))
      have HT := Lib.hid (HT2.out.below HB.out HT2.out.lt)
      by_cases hlt : k < E.length
      · obtain ⟨x, hx, hxl, hxf⟩ := EI.out k hlt
        have hce := (HB.out.cell (p := ⟨g, k, none⟩) HG.out).trans (DC.out k hlt)
        rw [← hx] at hce
        have pa := PA.out k hlt
        rw [← hx, Int.toNat_natCast] at pa
        obtain ⟨y, hy, hyl⟩ := PI.out k hlt
        have PUT := Lib.hid (PT.out k y (by have := CLN.out; omega) hy hyl)
        rw [hy] at pa
        have hgw : g < wr.heap.size := Nat.lt_of_lt_of_le HG.out HB.out.size
        have CA : Hid (∀ w', Hid (Below wr.heap.size wr w') → Calls Try.prog 78 #[.agg #[.slice p1 ps.length c1, .slice p2 ws.length c2], .slice q1 a.length d1, .int .i64 (x : Int)] w' (Gives (.int .i64 ((nodT ps a).getD x 0)) w')) := Lib.hid (fun w' hb => by rw [← FA.out x hxl]; exact SA2.out x hxl w' (hb_full HBW hb))
        have CB : Hid (∀ w', Hid (Below wr.heap.size wr w') → Calls Try.prog 78 #[.agg #[.slice p1 ps.length c1, .slice p2 ws.length c2], .slice q2 b.length d2, .int .i64 (x : Int)] w' (Gives (.int .i64 ((nodT ps b).getD x 0)) w')) := Lib.hid (fun w' hb => by rw [← FB.out x hxl]; exact SB2.out x hxl w' (hb_full HBW hb))
        have KC : Hid (∀ w', Hid (Below wr.heap.size wr w') → w'.cell? ⟨w.heap.size, 0, none⟩ = some (.slice p1 ps.length c1) ∧ w'.cell? ⟨w.heap.size, 1, none⟩ = some (.slice p2 ws.length c2) ∧ w'.cell? ⟨g, k, none⟩ = some (.int .i64 (x : Int))) := Lib.hid (fun w' hb => ⟨(HT.out.below hb.out HT.out.lt).cells.1, (HT.out.below hb.out HT.out.lt).cells.2, (hb.out.cell (p := ⟨g, k, none⟩) hgw).trans hce⟩)
        have HD : Hid (Below wr.heap.size wr wr.drew) := Lib.hid (below_drew (Below.refl _ _))
        obtain ⟨x0, x1⟩ := HT.out.cells
        have i0 : (0 : Int) ≤ (k : Int) := by omega
        have i1 : (k : Int) < (E.length : Int) := by omega
        have LLE : (nodesW (fun y => inL (C.take k) (y : Int)) ps.length).length ≤ 24 := Nat.le_trans (NL.out k) hn24
        obtain ⟨na, hna⟩ : ∃ na, na = (nodT ps a).getD x 0 := ⟨_, rfl⟩
        obtain ⟨nb, hnb⟩ : ∃ nb, nb = (nodT ps b).getD x 0 := ⟨_, rfl⟩
        rw [← hna] at CA pa
        rw [← hnb] at CB pa
        have CM : Hid (∀ w', Calls Try.prog 77 #[.int .i64 na, .int .i64 nb] w' fun e w'' => e = .returned (.int .i64 (y : Int)) ∧ w' = w'') := Lib.hid (fun w' => by rw [pa]; exact lessP na nb w')
        have IY : InI64 (y : Int) := inI64_nat (by omega)
        obtain ⟨LL, hLL⟩ : ∃ LL, LL = nodesW (fun y => inL (C.take k) (y : Int)) ps.length := ⟨_, rfl⟩
        rw [← hLL] at HO PUT LLE
        have CP : Hid (∀ w', Hid (Below wr.heap.size wr w') → Calls Try.prog 76 #[.slice (some ⟨go, 0, none⟩) LL.length co, .int .i64 (y : Int)] w' (fun e w'' => ∃ g3 c3, e = .returned (.slice (some ⟨g3, 0, none⟩) (nodesW (fun y => inL (C.take (k + 1)) (y : Int)) ps.length).length c3) ∧ OwnV w'' w.heap.size w''.heap.size (.slice (some ⟨g3, 0, none⟩) (nodesW (fun y => inL (C.take (k + 1)) (y : Int)) ps.length).length c3) (nodesW (fun y => inL (C.take (k + 1)) (y : Int)) ps.length) ∧ Below w'.heap.size w' w'')) := Lib.hid (fun w' hb => by
          rw [← PUT.out]
          exact putO LL (y : Int) go co w.heap.size w' (by omega) IY (hb_full HBW hb).size ((HO.out.below hb.out).wide hb.out.size (Nat.le_refl _)))
        obtain ⟨L2, hL2⟩ : ∃ L2, L2 = nodesW (fun y => inL (C.take (k + 1)) (y : Int)) ps.length := ⟨_, rfl⟩
        rw [← hL2] at CP
        rw [← hLL]
        clear hx hce pa hy hna hnb hLL PUT
        go_wp2_with fail
        go_region_held3 (fun w' => w'.cell? ⟨w.heap.size, 0, none⟩ = some (.slice p1 ps.length c1) ∧ w'.cell? ⟨w.heap.size, 1, none⟩ = some (.slice p2 ws.length c2) ∧ w'.cell? ⟨g, k, none⟩ = some (.int .i64 (x : Int)))
          (first | with_reducible exact KC.out _ HB8 | with_reducible exact KC.out _ HB7 | with_reducible exact KC.out _ HB6 | with_reducible exact KC.out _ HD | go_keep)
          (first
            | (go_at_call 78; (with_reducible refine (CA.out _ HD).mono ?_); rintro e w6 ⟨rfl, b6⟩; (have HB6 := hb_next (wa := wr) HD b6); clear b6)
            | (go_at_call 78; (with_reducible refine (CB.out _ HB6).mono ?_); rintro e w7 ⟨rfl, b7⟩; (have HB7 := hb_next (wa := wr) HB6 b7); clear b7)
            | (go_at_call 77; (with_reducible refine (CM.out _).mono ?_); rintro e w9 ⟨rfl, rfl⟩)
            | (go_at_call 76; (with_reducible refine (CP.out _ HB7).mono ?_); rintro e w8 ⟨g3, c3, rfl, o8, b8⟩; (have HB8 := hb_next (wa := wr) HB7 b8); (have HO8 := Lib.hid o8); clear o8 b8))
        all_goals
          have HBX := Lib.hid (HB.out.trans (HB8.out.mono HB.out.size))
          go_wp2_with fail
          go_roundg (E.length - (k + 1))
          case rel => exact ⟨k + 1, by omega, by omega, by go_num, ⟨_, _, by rw [← hL2]⟩, Lib.hid (by rw [← hL2]; exact HO8.out), HBX⟩
          case measure => omega
      · have FIN : Hid (NewIntsB (pickT ps a b false) true w (.returned (.tuple #[.slice (some ⟨go, 0, none⟩) (nodesW (fun y => inL (C.take k) (y : Int)) ps.length).length co, .bool true])) wr) := Lib.hid ⟨_, rfl, by have h := HO.out; rwa [ALL.out k (by have := CLN.out; omega)] at h ⊢, HBW.out⟩
        go_wp2
        go_ret2
        exact FIN.out
set_option maxRecDepth 100000 in
set_option maxHeartbeats 8000000 in
theorem ruleMLat (ps ws a b : List Int) (v u1 u2 : Value) (w : World) (hn1 : a.length ≤ 1048576) (hn2 : b.length ≤ 1048576) (h : TreeV w w.heap.size v ps ws) (hu : IntsV w w.heap.size u1 a) (hv : IntsV w w.heap.size u2 b) :
    Calls Try.prog 41 #[v, u1, u2] w (NewIntsB (ifTwo ps ws a b (pickT ps a b true)) (twoB ps ws a b) w) := by
  have PC := Lib.hid (fun w' (hb : Below w.heap.size w w') => two4S ps ws a b v u1 u2 w' hn1 hn2 (h.boxed hb) ((hu.below hb).more hb.size) ((hv.below hb).more hb.size))
  have EN := Lib.hid (fun (gd : Good ps ws) w' (hb : Below w.heap.size w w') => endsS ps ws v w' (h.boxed hb) gd.n24 (parAll gd))
  have SA := Lib.hid (fun (gd : Good ps ws) (x : Nat) (hx : x < ps.length) w' (hb : Below w.heap.size w w') => stop4S ps ws a v u1 x w' gd hx hn1 (h.boxed hb) ((hu.below hb).more hb.size))
  have SB := Lib.hid (fun (gd : Good ps ws) (x : Nat) (hx : x < ps.length) w' (hb : Below w.heap.size w w') => stop4S ps ws b v u2 x w' gd hx hn2 (h.boxed hb) ((hv.below hb).more hb.size))
  obtain ⟨p1, c1, p2, c2, rfl⟩ := h.shape
  obtain ⟨q1, d1, rfl, _⟩ := hu
  obtain ⟨q2, d2, rfl, _⟩ := hv
  clear h
  have B1 := ((Below.refl w.heap.size w).alloc (Nat.le_refl _) (.cells #[.slice p1 ps.length c1, .slice p2 ws.length c2] 28)).alloc (by simp) (.cells #[] 3)
  have T1 := Lib.hid (TBox.alloc (show TBox (w.alloc (.cells #[.slice p1 ps.length c1, .slice p2 ws.length c2] 28)) w.heap.size (.slice p1 ps.length c1) (.slice p2 ws.length c2) from alloc_heap w _) (.cells #[] 3))
  have O1 := Lib.hid (OwnV.empty (w.alloc (.cells #[.slice p1 ps.length c1, .slice p2 ws.length c2] 28)) w.heap.size (by simp))
  rw [show (w.alloc (.cells #[.slice p1 ps.length c1, .slice p2 ws.length c2] 28)).heap.size = w.heap.size + 1 by simp] at O1
  obtain ⟨x0, x1⟩ := T1.out.cells
  obtain ⟨wa, hwa⟩ : ∃ wa, wa = (w.alloc (.cells #[.slice p1 ps.length c1, .slice p2 ws.length c2] 28)).alloc (.cells #[] 3) := ⟨_, rfl⟩
  rw [← hwa] at B1 T1 O1
  have HBA := Lib.hid B1
  clear B1
  cases hp : twoB ps ws a b
  · rw [hp] at PC
    have IS := Lib.hid (show ifTwo ps ws a b (pickT ps a b true) = [] by unfold ifTwo; rw [hp]; rfl)
    rw [IS.out]
    clear hp EN SA SB
    go_enter Try.func41, Try.ntmps41
    go_wp2_with fail
    rw [← hwa]
    clear hwa
    refine (PC.out _ HBA.out).mono ?_
    rintro e w1 ⟨rfl, b1⟩
    have FIN : Hid (NewIntsB [] false w (.returned (.tuple #[.slice (some ⟨w.heap.size + 1, 0, none⟩) 0 0, .bool false])) w1) := Lib.hid ⟨_, rfl, (O1.out.below b1).wide b1.size (Nat.le_refl _), HBA.out.trans (b1.mono HBA.out.size)⟩
    clear b1
    go_wp2_with fail
    go_ret2
    exact FIN.out
  · rw [hp] at PC
    have IS := Lib.hid (show ifTwo ps ws a b (pickT ps a b true) = pickT ps a b true by unfold ifTwo; rw [hp]; rfl)
    have ST : Stop ps ws a ∧ Stop ps ws b := by unfold twoB at hp; rw [Bool.and_eq_true] at hp; exact ⟨stopB_iff.1 hp.1, stopB_iff.1 hp.2⟩
    obtain ⟨sa, sb⟩ := ST
    have gd := sa.good
    have hn24 := gd.n24
    have hn0 := gd.n1
    have EN2 := Lib.hid (EN.out gd)
    have SA2 := Lib.hid (SA.out gd)
    have SB2 := Lib.hid (SB.out gd)
    have EP := ends_pos gd
    have hel := Nat.le_trans (ends_le ps) hn24
    have EI := Lib.hid (fun i (hi : i < (endsT ps).length) => ends_in hi)
    have FA := Lib.hid (fun (x : Nat) (hx : x < ps.length) => sa.frs hx)
    have FB := Lib.hid (fun (x : Nat) (hx : x < ps.length) => sb.frs hx)
    have PA := Lib.hid (fun k (hk : k < (endsT ps).length) => pickC_at ps a b true hk)
    have PI := Lib.hid (fun k (hk : k < (endsT ps).length) => pickC_in sa sb true hk)
    obtain ⟨C, hC⟩ : ∃ C, C = pickC ps a b true := ⟨_, rfl⟩
    have CLN : Hid (C.length = (endsT ps).length) := Lib.hid (by rw [hC, pickC_len])
    have PT := Lib.hid (fun (k x : Nat) (hk : k < C.length) (hx : C.getD k 0 = (x : Int)) (h : x < ps.length) => put_take hk hx h)
    have Z0 : Hid (nodesW (fun y => inL (C.take 0) (y : Int)) ps.length = []) := Lib.hid (by
      rw [List.take_zero]
      unfold nodesW
      rw [List.map_eq_nil_iff, List.filter_eq_nil_iff]
      intro y _
      unfold inL; simp)
    have ALL : Hid (∀ k, C.length ≤ k → nodesW (fun y => inL (C.take k) (y : Int)) ps.length = pickT ps a b true) := Lib.hid (fun k hk => by rw [List.take_of_length_le hk, hC]; rfl)
    have NL := Lib.hid (fun k => nodesW_len (fun y => inL (C.take k) (y : Int)) ps.length)
    rw [← hC] at PA PI
    rw [IS.out]
    clear hp EN SA SB gd hC sa sb
    obtain ⟨E, hE⟩ : ∃ E, E = endsT ps := ⟨_, rfl⟩
    rw [← hE] at EN2 EP hel EI CLN PA PI
    clear hE
    go_enter Try.func41, Try.ntmps41
    go_wp2_with fail
    rw [← hwa]
    clear hwa
    refine (PC.out _ HBA.out).mono ?_
    rintro e w1 ⟨rfl, b1⟩
    have HB1 := Lib.hid (HBA.out.trans (b1.mono HBA.out.size))
    have HT1 := Lib.hid (T1.out.below b1 T1.out.lt)
    have HO1 := Lib.hid ((O1.out.below b1).wide b1.size (Nat.le_refl _))
    clear b1 x0 x1
    obtain ⟨x0, x1⟩ := HT1.out.cells
    go_wp2_with fail
    refine (EN2.out _ HB1.out).mono ?_
    rintro e w2 ⟨ue, rfl, o2, b2⟩
    obtain ⟨g, ce, rfl, hg1, hg2⟩ := o2.shape EP
    have HB2 := Lib.hid (HB1.out.trans (b2.mono HB1.out.size))
    have HT2 := Lib.hid (HT1.out.below b2 HT1.out.lt)
    have HO2 := Lib.hid ((HO1.out.below b2).wide b2.size (Nat.le_refl _))
    have DC := Lib.hid (fun j (hj : j < E.length) => o2.cellGet (j := j) hj)
    have HG := Lib.hid hg2
    clear b2 o2 x0 x1 hg1 hg2 HB1 HT1 HO1 T1 O1 HBA
    go_wp2
    go_loopg [8, 10] E.length (fun gg o i wr => ∃ k : Nat, k ≤ E.length ∧ E.length - k ≤ gg ∧ i = .int .i64 k ∧ (∃ go co, o = .slice (some ⟨go, 0, none⟩) (nodesW (fun y => inL (C.take k) (y : Int)) ps.length).length co) ∧ Hid (OwnV wr w.heap.size wr.heap.size o (nodesW (fun y => inL (C.take k) (y : Int)) ps.length)) ∧ Hid (Below w2.heap.size w2 wr))
    case atStart => exact ⟨0, Nat.zero_le _, by omega, rfl, ⟨_, _, by rw [Z0.out]; rfl⟩, Lib.hid (by rw [Z0.out]; exact HO2.out), Lib.hid (Below.refl _ _)⟩
    case round =>
      obtain ⟨k, hk, hgg, rfl, ⟨go, co, rfl⟩, HO, HB⟩ := hrel
      have HBW := Lib.hid (HB2.out.trans (HB.out.mono HB2.out.size))
      have HT := Lib.hid (HT2.out.below HB.out HT2.out.lt)
      by_cases hlt : k < E.length
      · obtain ⟨x, hx, hxl, hxf⟩ := EI.out k hlt
        have hce := (HB.out.cell (p := ⟨g, k, none⟩) HG.out).trans (DC.out k hlt)
        rw [← hx] at hce
        have pa := PA.out k hlt
        rw [← hx, Int.toNat_natCast] at pa
        obtain ⟨y, hy, hyl⟩ := PI.out k hlt
        have PUT := Lib.hid (PT.out k y (by have := CLN.out; omega) hy hyl)
        rw [hy] at pa
        have hgw : g < wr.heap.size := Nat.lt_of_lt_of_le HG.out HB.out.size
        have CA : Hid (∀ w', Hid (Below wr.heap.size wr w') → Calls Try.prog 78 #[.agg #[.slice p1 ps.length c1, .slice p2 ws.length c2], .slice q1 a.length d1, .int .i64 (x : Int)] w' (Gives (.int .i64 ((nodT ps a).getD x 0)) w')) := Lib.hid (fun w' hb => by rw [← FA.out x hxl]; exact SA2.out x hxl w' (hb_full HBW hb))
        have CB : Hid (∀ w', Hid (Below wr.heap.size wr w') → Calls Try.prog 78 #[.agg #[.slice p1 ps.length c1, .slice p2 ws.length c2], .slice q2 b.length d2, .int .i64 (x : Int)] w' (Gives (.int .i64 ((nodT ps b).getD x 0)) w')) := Lib.hid (fun w' hb => by rw [← FB.out x hxl]; exact SB2.out x hxl w' (hb_full HBW hb))
        have KC : Hid (∀ w', Hid (Below wr.heap.size wr w') → w'.cell? ⟨w.heap.size, 0, none⟩ = some (.slice p1 ps.length c1) ∧ w'.cell? ⟨w.heap.size, 1, none⟩ = some (.slice p2 ws.length c2) ∧ w'.cell? ⟨g, k, none⟩ = some (.int .i64 (x : Int))) := Lib.hid (fun w' hb => ⟨(HT.out.below hb.out HT.out.lt).cells.1, (HT.out.below hb.out HT.out.lt).cells.2, (hb.out.cell (p := ⟨g, k, none⟩) hgw).trans hce⟩)
        have HD : Hid (Below wr.heap.size wr wr.drew) := Lib.hid (below_drew (Below.refl _ _))
        obtain ⟨x0, x1⟩ := HT.out.cells
        have i0 : (0 : Int) ≤ (k : Int) := by omega
        have i1 : (k : Int) < (E.length : Int) := by omega
        have LLE : (nodesW (fun y => inL (C.take k) (y : Int)) ps.length).length ≤ 24 := Nat.le_trans (NL.out k) hn24
        obtain ⟨na, hna⟩ : ∃ na, na = (nodT ps a).getD x 0 := ⟨_, rfl⟩
        obtain ⟨nb, hnb⟩ : ∃ nb, nb = (nodT ps b).getD x 0 := ⟨_, rfl⟩
        rw [← hna] at CA pa
        rw [← hnb] at CB pa
        have CM : Hid (∀ w', Calls Try.prog 80 #[.int .i64 na, .int .i64 nb] w' fun e w'' => e = .returned (.int .i64 (y : Int)) ∧ w' = w'') := Lib.hid (fun w' => by rw [pa]; exact moreP na nb w')
        have IY : InI64 (y : Int) := inI64_nat (by omega)
        obtain ⟨LL, hLL⟩ : ∃ LL, LL = nodesW (fun y => inL (C.take k) (y : Int)) ps.length := ⟨_, rfl⟩
        rw [← hLL] at HO PUT LLE
        have CP : Hid (∀ w', Hid (Below wr.heap.size wr w') → Calls Try.prog 76 #[.slice (some ⟨go, 0, none⟩) LL.length co, .int .i64 (y : Int)] w' (fun e w'' => ∃ g3 c3, e = .returned (.slice (some ⟨g3, 0, none⟩) (nodesW (fun y => inL (C.take (k + 1)) (y : Int)) ps.length).length c3) ∧ OwnV w'' w.heap.size w''.heap.size (.slice (some ⟨g3, 0, none⟩) (nodesW (fun y => inL (C.take (k + 1)) (y : Int)) ps.length).length c3) (nodesW (fun y => inL (C.take (k + 1)) (y : Int)) ps.length) ∧ Below w'.heap.size w' w'')) := Lib.hid (fun w' hb => by
          rw [← PUT.out]
          exact putO LL (y : Int) go co w.heap.size w' (by omega) IY (hb_full HBW hb).size ((HO.out.below hb.out).wide hb.out.size (Nat.le_refl _)))
        obtain ⟨L2, hL2⟩ : ∃ L2, L2 = nodesW (fun y => inL (C.take (k + 1)) (y : Int)) ps.length := ⟨_, rfl⟩
        rw [← hL2] at CP
        rw [← hLL]
        clear hx hce pa hy hna hnb hLL PUT
        go_wp2_with fail
        go_region_held3 (fun w' => w'.cell? ⟨w.heap.size, 0, none⟩ = some (.slice p1 ps.length c1) ∧ w'.cell? ⟨w.heap.size, 1, none⟩ = some (.slice p2 ws.length c2) ∧ w'.cell? ⟨g, k, none⟩ = some (.int .i64 (x : Int)))
          (first | with_reducible exact KC.out _ HB8 | with_reducible exact KC.out _ HB7 | with_reducible exact KC.out _ HB6 | with_reducible exact KC.out _ HD | go_keep)
          (first
            | (go_at_call 78; (with_reducible refine (CA.out _ HD).mono ?_); rintro e w6 ⟨rfl, b6⟩; (have HB6 := hb_next (wa := wr) HD b6); clear b6)
            | (go_at_call 78; (with_reducible refine (CB.out _ HB6).mono ?_); rintro e w7 ⟨rfl, b7⟩; (have HB7 := hb_next (wa := wr) HB6 b7); clear b7)
            | (go_at_call 80; (with_reducible refine (CM.out _).mono ?_); rintro e w9 ⟨rfl, rfl⟩)
            | (go_at_call 76; (with_reducible refine (CP.out _ HB7).mono ?_); rintro e w8 ⟨g3, c3, rfl, o8, b8⟩; (have HB8 := hb_next (wa := wr) HB7 b8); (have HO8 := Lib.hid o8); clear o8 b8))
        all_goals
          have HBX := Lib.hid (HB.out.trans (HB8.out.mono HB.out.size))
          go_wp2_with fail
          go_roundg (E.length - (k + 1))
          case rel => exact ⟨k + 1, by omega, by omega, by go_num, ⟨_, _, by rw [← hL2]⟩, Lib.hid (by rw [← hL2]; exact HO8.out), HBX⟩
          case measure => omega
      · have FIN : Hid (NewIntsB (pickT ps a b true) true w (.returned (.tuple #[.slice (some ⟨go, 0, none⟩) (nodesW (fun y => inL (C.take k) (y : Int)) ps.length).length co, .bool true])) wr) := Lib.hid ⟨_, rfl, by have h := HO.out; rwa [ALL.out k (by have := CLN.out; omega)] at h ⊢, HBW.out⟩
        go_wp2
        go_ret2
        exact FIN.out
end Go.Proofs.Ytagljebfbacdhaa
