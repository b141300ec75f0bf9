/- Pays of ends, in the model. -/
import Derived.Test.YtonlibncccljgaaPayI
namespace Go.Proofs.Ytonlibncccljgaa
open Go.RowKit
set_option linter.unusedVariables false
set_option maxRecDepth 100000 in
set_option maxHeartbeats 4000000 in
theorem paysS (ps ws vs : List Int) (v u : Value) (w : World) (hl9 : vs.length ≤ 1048576) (h : TreeV w w.heap.size v ps ws) (hu : IntsV w w.heap.size u vs) :
    Calls Try.prog 93 #[v, u] w (Gives (.bool (payB ps ws vs)) w) := by
  have G := Lib.hid (fun w' (hb : Below w.heap.size w w') => goodS ps ws v w' (h.boxed hb))
  have EN := Lib.hid (fun (g : Good ps ws) w' (hb : Below w.heap.size w w') => endsS ps ws v w' (h.boxed hb) g.n24 (parAll g))
  obtain ⟨p1, c1, p2, c2, rfl⟩ := h.shape
  clear h
  obtain ⟨q, cq, rfl, lq, mq, zq, iq⟩ := hu
  have E1 := Lib.hid iq
  clear iq zq mq
  have B1 := (Below.refl w.heap.size w).alloc (Nat.le_refl _) (.cells #[.slice p1 ps.length c1, .slice p2 ws.length c2] 29)
  have T1 := Lib.hid (show TBox (w.alloc (.cells #[.slice p1 ps.length c1, .slice p2 ws.length c2] 29)) w.heap.size (.slice p1 ps.length c1) (.slice p2 ws.length c2) from alloc_heap w _)
  obtain ⟨wa, hwa⟩ : ∃ wa, wa = w.alloc (.cells #[.slice p1 ps.length c1, .slice p2 ws.length c2] 29) := ⟨_, rfl⟩
  rw [← hwa] at B1 T1
  have HBA := Lib.hid B1
  clear B1
  go_enter Try.func93, Try.ntmps93
  go_wp2
  rw [← hwa]
  clear hwa
  go_loopw [5] (fun i wr => ∃ k : Nat, k ≤ vs.length ∧ i = .int .i64 k ∧ Hid (∀ j, j < k → payOk (vs.getD j 0) = true) ∧ wr = wa) (fun i _ => vs.length - (intOf i).toNat)
  case atStart => exact ⟨0, Nat.zero_le _, rfl, Lib.hid (fun j hj => by omega), rfl⟩
  case round =>
    obtain ⟨k, hk, rfl, HA, rfl⟩ := hrel
    obtain ⟨x0, x1⟩ := T1.out.cells
    by_cases hlt : k < vs.length
    · obtain ⟨b, off, rfl, hb, hc⟩ := E1.out.get hlt
      have hcw : wr.cell? ⟨b, off + k, none⟩ = some (.int .i64 (vs.getD k 0)) := by rw [HBA.out.cell (p := ⟨b, off + k, none⟩) hb]; exact hc
      have i0 : (0 : Int) ≤ (k : Int) := by omega
      have i1 : (k : Int) < (vs.length : Int) := by omega
      have FA := Lib.hid (payB_no (ps := ps) (ws := ws) hlt)
      have NX : Hid (payOk (vs.getD k 0) = true → ∀ j, j < k + 1 → payOk (vs.getD j 0) = true) := Lib.hid (fun h j hj => by
        rcases Nat.lt_or_ge j k with h' | h'
        · exact HA.out j h'
        · obtain rfl : j = k := by omega
          exact h)
      obtain ⟨z, hz⟩ : ∃ z, z = vs.getD k 0 := ⟨_, rfl⟩
      rw [← hz] at hcw FA NX
      have C := Lib.hid (inS z (-999) 999 wr)
      have D : Hid (decide (-999 ≤ z ∧ z ≤ 999) = payOk z) := Lib.hid rfl
      rw [D.out] at C
      clear hc hz HA D
      obtain ⟨t, ht⟩ : ∃ t, t = payOk z := ⟨_, rfl⟩
      rw [← ht] at C FA NX
      clear ht
      cases t
      · have R := Lib.hid (FA.out rfl)
        clear FA NX
        go_wp2_with fail
        refine C.out.mono ?_
        rintro e w2 ⟨rfl, rfl⟩
        go_wp2
        go_ret
        exact ⟨ret_b R.out, HBA.out⟩
      · have N2 := Lib.hid (NX.out rfl)
        clear FA NX
        go_wp2_with fail
        refine C.out.mono ?_
        rintro e w2 ⟨rfl, rfl⟩
        go_wp2
        go_roundw
        case rel => exact ⟨k + 1, by omega, by go_num, N2, trivial⟩
        case measure => simp [intOf]; omega
    · have ALL : Hid (vs.all payOk = true) := Lib.hid (by
        rw [List.all_eq_true]
        intro z hz
        obtain ⟨i, hi, rfl⟩ := mem_getD hz
        exact HA.out i (by omega))
      cases hg : goodT ps ws
      · rw [hg] at G
        have R : Hid (payB ps ws vs = false) := Lib.hid (by unfold payB; rw [hg]; rfl)
        clear hg HA
        go_wp2_with fail
        refine (G.out _ HBA.out).mono ?_
        rintro e w1 ⟨rfl, b1⟩
        have HB1 := Lib.hid (HBA.out.trans (b1.mono HBA.out.size))
        clear b1 x0 x1
        go_wp2_with fail
        go_ret
        exact ⟨ret_b R.out, HB1.out⟩
      · rw [hg] at G
        have gd := Good.of hg
        have EN2 := Lib.hid (EN.out gd)
        have PB : Hid (payB ps ws vs = decide (vs.length = (endsT ps).length)) := Lib.hid (by unfold payB; rw [hg, ALL.out, Bool.and_true, Bool.true_and])
        obtain ⟨E, hE⟩ : ∃ E, E = endsT ps := ⟨_, rfl⟩
        rw [← hE] at EN2 PB
        clear hg gd hE HA EN
        go_wp2_with fail
        refine (G.out _ HBA.out).mono ?_
        rintro e w1 ⟨rfl, b1⟩
        have HB1 := Lib.hid (HBA.out.trans (b1.mono HBA.out.size))
        have T2 := Lib.hid (T1.out.below b1 T1.out.lt)
        clear b1 x0 x1
        obtain ⟨x0, x1⟩ := T2.out.cells
        go_wp2_with fail
        refine (EN2.out _ HB1.out).mono ?_
        rintro e w2 ⟨ue, rfl, o2, b2⟩
        obtain ⟨pe, ce, rfl, _⟩ := o2.intsV
        have HB2 := Lib.hid (HB1.out.trans (b2.mono HB1.out.size))
        clear b2 x0 x1 o2
        by_cases hlen : vs.length = E.length
        · have R : Hid (payB ps ws vs = true) := Lib.hid (by rw [PB.out, decide_eq_true hlen])
          have nb : ((vs.length : Int) == (E.length : Int)) = true := by rw [beq_iff_eq]; omega
          clear hlen
          go_wp2_with fail
          go_ret
          exact ⟨ret_b R.out, HB2.out⟩
        · have R : Hid (payB ps ws vs = false) := Lib.hid (by rw [PB.out, decide_eq_false hlen])
          have nb : ((vs.length : Int) == (E.length : Int)) = false := by rw [beq_eq_false_iff_ne]; omega
          clear hlen
          go_wp2_with fail
          go_ret
          exact ⟨ret_b R.out, HB2.out⟩
end Go.Proofs.Ytonlibncccljgaa
