/- Stoppings in the model. -/
import Derived.Test.YtagljebfbacdhabStopP
import Derived.Test.YtagljebfbacdhabBothS
import Derived.Test.YtagljebfbacdhabEndsL
import Derived.Test.YtagljebfbacdhabProcI
import Derived.Test.YtagljebfbacdhabWayS
namespace Go.Proofs.Ytagljebfbacdhab
open Go.RowKit
set_option linter.unusedVariables false
theorem NewInts.after {zs : List Int} {w w1 w2 : World} {e : Ending} (h : NewInts zs w1 e w2) (hb : Below w.heap.size w w1) : NewInts zs w e w2 := by
  obtain ⟨v, e, o, b⟩ := h
  exact ⟨v, e, o.low hb.size, hb.trans (b.mono hb.size)⟩
set_option maxHeartbeats 2000000 in
theorem onS (ps ws ss : List Int) (v u : Value) (x : Nat) (w : World) (gd : Good ps ws) (hx : x < ps.length) (hl : ss.length ≤ 1048576) (h : TreeV w w.heap.size v ps ws) (hu : IntsV w w.heap.size u ss) :
    Calls Try.prog 135 #[v, u, .int .i64 x] w (NewInts (onW ps ss x) w) := by
  have WY := Lib.hid (fun w' (hb : Below w.heap.size w w') => wayS ps ws v x w' gd hx (h.boxed hb))
  have WL : Hid ((wayT ps (x : Int)).length ≤ 1048576) := Lib.hid (by
    unfold wayT
    rw [List.length_reverse, Int.toNat_natCast]
    have := (wayA_len (ParOk.of gd) x hx).1
    have := gd.n24
    omega)
  have BO := Lib.hid (fun w1 u1 (b1 : Below w.heap.size w w1) (h1 : IntsV w1 w1.heap.size u1 (wayT ps (x : Int))) => bothS ss (wayT ps (x : Int)) u u1 w1 hl WL.out ((hu.below b1).more b1.size) h1)
  rw [on_way] at BO
  obtain ⟨p1, c1, p2, c2, rfl⟩ := h.shape
  obtain ⟨q, cq, rfl, _⟩ := hu
  clear h gd
  have B1 := Lib.hid ((Below.refl w.heap.size w).alloc (Nat.le_refl _) (.cells #[.slice p1 ps.length c1, .slice p2 ws.length c2] 28))
  go_enter Try.func135, Try.ntmps135
  go_wp2_with fail
  refine (WY.out _ B1.out).mono ?_
  rintro e w1 ⟨u1, rfl, o1, b1⟩
  have HB1 := Lib.hid (B1.out.trans (b1.mono B1.out.size))
  have B := Lib.hid (BO.out w1 u1 HB1.out o1.intsV)
  clear o1 b1
  go_wp2_with fail
  refine B.out.mono ?_
  rintro e w2 ⟨u2, rfl, o2, b2⟩
  have FIN := Lib.hid (NewInts.after ⟨u2, rfl, o2, b2⟩ HB1.out)
  clear o2 b2
  go_wp2_with fail
  go_ret
  exact FIN.out
theorem stop_no_end {ps ws ss : List Int} (hg : goodT ps ws = true) {k : Nat} (hk : k < (endsT ps).length) (h : (onW ps ss ((endsT ps).getD k 0).toNat).length ≠ 1) : stopB ps ws ss = false := by
  cases hr : riB ps.length ss
  · unfold stopB; rw [hr]; simp
  · rw [stop_ends hg hr]
    cases ha : (endsT ps).all fun e => decide ((onW ps ss e.toNat).length = 1)
    · rfl
    · rw [List.all_eq_true] at ha
      have hm : (endsT ps).getD k 0 ∈ endsT ps := by rw [List.getD_eq_getElem?_getD, List.getElem?_eq_getElem hk]; exact List.getElem_mem hk
      exact absurd (of_decide_eq_true (ha _ hm)) h
theorem stop_all_ends {ps ws ss : List Int} (hg : goodT ps ws = true) (h : ∀ k, k < (endsT ps).length → (onW ps ss ((endsT ps).getD k 0).toNat).length = 1) : stopB ps ws ss = riB ps.length ss := by
  cases hr : riB ps.length ss
  · unfold stopB; rw [hr]; simp
  · rw [stop_ends hg hr, List.all_eq_true]
    intro e he
    obtain ⟨i, hi, rfl⟩ := mem_getD he
    exact decide_eq_true (h i hi)
theorem ends_node {ps : List Int} {k : Nat} (hk : k < (endsT ps).length) : ∃ x : Nat, (endsT ps).getD k 0 = (x : Int) ∧ x < ps.length ∧ leafB ps x = true := by
  have hm : (endsT ps).getD k 0 ∈ endsT ps := by rw [List.getD_eq_getElem?_getD, List.getElem?_eq_getElem hk]; exact List.getElem_mem hk
  exact nodesW_mem hm
set_option maxRecDepth 100000 in
set_option maxHeartbeats 4000000 in
theorem stopS (ps ws ss : List Int) (v u : Value) (w : World) (gd : Good ps ws) (hl : ss.length ≤ 1048576) (h : TreeV w w.heap.size v ps ws) (hu : IntsV w w.heap.size u ss) :
    Calls Try.prog 139 #[v, u] w (Gives (.bool (stopB ps ws ss)) w) := by
  have EN := Lib.hid (fun w' (hb : Below w.heap.size w w') => endsS ps ws v w' (h.boxed hb) gd.n24 (parAll gd))
  have ON := Lib.hid (fun w' (hb : Below w.heap.size w w') (x : Nat) (hx : x < ps.length) => onS ps ws ss v u x w' gd hx hl (h.boxed hb) ((hu.below hb).more hb.size))
  have RI := Lib.hid (fun w' (hb : Below w.heap.size w w') => riseS ss ps.length u w.heap.size w' hl (by have := gd.n24; omega) (hu.below hb))
  have hg : goodT ps ws = true := (goodT_iff _ _).2 gd
  have NO := Lib.hid (fun k hk h => stop_no_end (ps := ps) (ws := ws) (ss := ss) hg (k := k) hk h)
  have ALL := Lib.hid (stop_all_ends (ps := ps) (ws := ws) (ss := ss) hg)
  have NODE := Lib.hid (fun k hk => ends_node (ps := ps) (k := k) hk)
  have OL := Lib.hid (fun (x : Nat) (hx : x < ps.length) => show (onW ps ss x).length ≤ 1048576 from Nat.le_trans (by unfold onW; exact List.length_filter_le _ _) hl)
  have EP := ends_pos gd
  have hn := gd.n24
  have hel := Nat.le_trans (ends_le ps) hn
  obtain ⟨p1, c1, p2, c2, rfl⟩ := h.shape
  obtain ⟨q, cq, rfl, _⟩ := hu
  clear h gd hg
  have B1 := (Below.refl w.heap.size w).alloc (Nat.le_refl _) (.cells #[.slice p1 ps.length c1, .slice p2 ws.length c2] 28)
  have T1 := Lib.hid (show TBox (w.alloc (.cells #[.slice p1 ps.length c1, .slice p2 ws.length c2] 28)) w.heap.size (.slice p1 ps.length c1) (.slice p2 ws.length c2) from alloc_heap w _)
  obtain ⟨wa, hwa⟩ : ∃ wa, wa = w.alloc (.cells #[.slice p1 ps.length c1, .slice p2 ws.length c2] 28) := ⟨_, rfl⟩
  rw [← hwa] at B1 T1
  have HBA := Lib.hid B1
  clear B1
  obtain ⟨x0, x1⟩ := T1.out.cells
  obtain ⟨E, hE⟩ : ∃ E, E = endsT ps := ⟨_, rfl⟩
  rw [← hE] at EN NO ALL NODE EP hel
  clear hE
  go_enter Try.func139, Try.ntmps139
  go_wp2_with fail
  rw [← hwa]
  clear hwa
  refine (EN.out _ HBA.out).mono ?_
  rintro e w1 ⟨ue, rfl, o1, b1⟩
  obtain ⟨g, ce, rfl, hg1, hg2⟩ := o1.shape EP
  have HB1 := Lib.hid (HBA.out.trans (b1.mono HBA.out.size))
  have HT1 := Lib.hid (T1.out.below b1 T1.out.lt)
  have DC := Lib.hid (fun j (hj : j < E.length) => o1.cellGet hj)
  have G2 := Lib.hid hg2
  clear b1 x0 x1 o1 hg1 hg2 EN T1 HBA
  go_wp2
  go_loopw [6] (fun i wr => ∃ k : Nat, k ≤ E.length ∧ i = .int .i64 k ∧ Hid (∀ j, j < k → (onW ps ss (E.getD j 0).toNat).length = 1) ∧ Hid (Below w1.heap.size w1 wr)) (fun i _ => E.length - (intOf i).toNat)
  case atStart => exact ⟨0, Nat.zero_le _, rfl, Lib.hid (fun j hj => by omega), Lib.hid (Below.refl _ _)⟩
  case round =>
    obtain ⟨k, hk, rfl, HA, HB⟩ := hrel
    have HBW := Lib.hid (HB1.out.trans (HB.out.mono HB1.out.size))
    have HTW := Lib.hid (HT1.out.below HB.out HT1.out.lt)
    obtain ⟨x0, x1⟩ := HTW.out.cells
    by_cases hlt : k < E.length
    · obtain ⟨x, hx, hxl, _⟩ := NODE.out k hlt
      have hce : wr.cell? ⟨g, k, none⟩ = some (.int .i64 x) := by rw [HB.out.cell (p := ⟨g, k, none⟩) G2.out, DC.out k hlt, hx]
      have C : Hid (∀ w', Hid (Below w1.heap.size w1 w') → Calls Try.prog 135 #[.agg #[.slice p1 ps.length c1, .slice p2 ws.length c2], .slice q ss.length cq, .int .i64 x] w' (NewInts (onW ps ss x) w')) := Lib.hid (fun w' hb => ON.out w' (hb_full HB1 hb) x hxl)
      have HDC : Hid (w1.cell? ⟨g, k, none⟩ = some (.int .i64 x)) := Lib.hid (by rw [DC.out k hlt, hx])
      have i0 : (0 : Int) ≤ (k : Int) := by omega
      have i1 : (k : Int) < (E.length : Int) := by omega
      have NX : Hid ((onW ps ss x).length = 1 → ∀ j, j < k + 1 → (onW ps ss (E.getD j 0).toNat).length = 1) := Lib.hid (fun h j hj => by
        rcases Nat.lt_or_ge j k with h' | h'
        · exact HA.out j h'
        · obtain rfl : j = k := by omega
          rw [hx, Int.toNat_natCast]; exact h)
      have NK : Hid ((onW ps ss x).length ≠ 1 → stopB ps ws ss = false) := Lib.hid (fun h => NO.out k hlt (by rw [hx, Int.toNat_natCast]; exact h))
      have ol := OL.out x hxl
      obtain ⟨L, hL⟩ : ∃ L, L = onW ps ss x := ⟨_, rfl⟩
      rw [← hL] at C NX NK ol
      clear hx hL HA
      have KC : Hid (∀ w', Hid (Below w1.heap.size w1 w') → w'.cell? ⟨w.heap.size, 0, none⟩ = some (.slice p1 ps.length c1) ∧ w'.cell? ⟨w.heap.size, 1, none⟩ = some (.slice p2 ws.length c2) ∧ w'.cell? ⟨g, k, none⟩ = some (.int .i64 x)) := Lib.hid (fun w' hb => ⟨(HT1.out.below hb.out HT1.out.lt).cells.1, (HT1.out.below hb.out HT1.out.lt).cells.2, by rw [hb.out.cell (p := ⟨g, k, none⟩) G2.out]; exact HDC.out⟩)
      have HD : Hid (Below w1.heap.size w1 wr.drew) := Lib.hid (below_drew HB.out)
      go_wp2_with fail
      go_region_held3 (fun w' => w'.cell? ⟨w.heap.size, 0, none⟩ = some (.slice p1 ps.length c1) ∧ w'.cell? ⟨w.heap.size, 1, none⟩ = some (.slice p2 ws.length c2) ∧ w'.cell? ⟨g, k, none⟩ = some (.int .i64 x))
        (first | exact KC.out _ HD | exact KC.out _ (by assumption) | go_keep)
        (first
          | (go_at_call 135; (with_reducible refine (C.out _ (by first | exact HD | assumption)).mono ?_); rintro e w2 ⟨u2, rfl, o2, b2⟩; (obtain ⟨q2, d2, rfl, _⟩ := o2.intsV); (have HB2 := hb_next (wa := w1) (by first | exact HD | assumption) b2); clear b2 o2))
      all_goals
        have HBX := Lib.hid (hb_full (wa := w1) HB1 HB2)
        clear HD HB HBW
        by_cases h1 : L.length = 1
        · have N2 := Lib.hid (NX.out h1)
          have hne : ((L.length : Int) != 1) = false := by simp; omega
          clear NX NK
          go_wp2_with fail
          go_roundw
          case rel => exact ⟨k + 1, by omega, by go_num, N2, HB2⟩
          case measure => simp [intOf]; omega
        · have R := Lib.hid (NK.out h1)
          have hne : ((L.length : Int) != 1) = true := by simp; omega
          clear NX NK
          go_wp2_with fail
          go_ret
          exact ⟨ret_b R.out, HBX.out⟩
    · have R := Lib.hid (ALL.out (fun j hj => HA.out j (by omega)))
      have C := Lib.hid (RI.out wr HBW.out)
      generalize riB ps.length ss = rb at *
      clear HA
      go_wp2_with fail
      refine C.out.mono ?_
      rintro e w2 ⟨rfl, m, rfl⟩
      have HB2 := Lib.hid (below_drewN HBW.out m)
      go_wp2_with fail
      go_ret
      exact ⟨ret_b R.out, HB2.out⟩
/-- What IsStopping returns. -/
def stopV (ps ws ss : List Int) : Value := .tuple #[.bool (stopB ps ws ss), .bool (goodT ps ws)]
theorem stopV_form (ps ws ss : List Int) : ∃ rx ok, stopV ps ws ss = .tuple #[.bool rx, .bool ok] := ⟨_, _, rfl⟩
set_option maxHeartbeats 2000000 in
theorem isStopM (ps ws ss : List Int) (v u : Value) (w : World) (hl : ss.length ≤ 1048576) (h : TreeV w w.heap.size v ps ws) (hu : IntsV w w.heap.size u ss) :
    Calls Try.prog 68 #[v, u] w (Gives (stopV ps ws ss) w) := by
  have G := Lib.hid (fun w' (hb : Below w.heap.size w w') => goodS ps ws v w' (h.boxed hb))
  have SS := Lib.hid (fun (gd : Good ps ws) w' (hb : Below w.heap.size w w') => stopS ps ws ss v u w' gd hl (h.boxed hb) ((hu.below hb).more hb.size))
  obtain ⟨p1, c1, p2, c2, rfl⟩ := h.shape
  obtain ⟨q, cq, rfl, _⟩ := hu
  clear h
  have B1 := Lib.hid ((Below.refl w.heap.size w).alloc (Nat.le_refl _) (.cells #[.slice p1 ps.length c1, .slice p2 ws.length c2] 28))
  have T1 := Lib.hid (show TBox (w.alloc (.cells #[.slice p1 ps.length c1, .slice p2 ws.length c2] 28)) w.heap.size (.slice p1 ps.length c1) (.slice p2 ws.length c2) from alloc_heap w _)
  obtain ⟨wa, hwa⟩ : ∃ wa, wa = w.alloc (.cells #[.slice p1 ps.length c1, .slice p2 ws.length c2] 28) := ⟨_, rfl⟩
  rw [← hwa] at B1 T1
  obtain ⟨x0, x1⟩ := T1.out.cells
  have D : Hid (stopV ps ws ss = .tuple #[.bool (stopB ps ws ss), .bool (goodT ps ws)]) := Lib.hid rfl
  cases hg : goodT ps ws
  · have R : Hid (stopV ps ws ss = .tuple #[.bool false, .bool false]) := Lib.hid (by rw [D.out, hg]; unfold stopB; rw [hg]; rfl)
    rw [hg] at G
    clear hg D
    go_enter Try.func68, Try.ntmps68
    go_wp2_with fail
    rw [← hwa]
    clear hwa
    refine (G.out _ B1.out).mono ?_
    rintro e w1 ⟨rfl, b1⟩
    have HB1 := Lib.hid (B1.out.trans (b1.mono B1.out.size))
    obtain ⟨y0, y1⟩ := (T1.out.below b1 T1.out.lt).cells
    clear b1
    go_wp2_with fail
    go_ret2
    rw [R.out]
    exact ⟨rfl, HB1.out⟩
  · have S2 := Lib.hid (SS.out (Good.of hg))
    rw [hg] at G D
    clear hg SS
    generalize stopB ps ws ss = bb at *
    go_enter Try.func68, Try.ntmps68
    go_wp2_with fail
    rw [← hwa]
    clear hwa
    refine (G.out _ B1.out).mono ?_
    rintro e w1 ⟨rfl, b1⟩
    have HB1 := Lib.hid (B1.out.trans (b1.mono B1.out.size))
    obtain ⟨y0, y1⟩ := (T1.out.below b1 T1.out.lt).cells
    clear b1
    go_wp2_with fail
    refine (S2.out _ HB1.out).mono ?_
    rintro e w2 ⟨rfl, b2⟩
    have HB2 := Lib.hid (HB1.out.trans (b2.mono HB1.out.size))
    clear b2
    go_wp2_with fail
    go_ret2
    rw [D.out]
    exact ⟨rfl, HB2.out⟩
end Go.Proofs.Ytagljebfbacdhab
