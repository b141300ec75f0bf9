/- Payments in the model. -/
import Derived.Test.YtfpckfameebdnaaProcI
import Derived.Test.YtfpckfameebdnaaGoodS
namespace Go.Proofs.Ytfpckfameebdnaa
open Go.RowKit
set_option linter.unusedVariables false
set_option maxHeartbeats 2000000 in
theorem pays4 (ps ws zs : List Int) (v u : Value) (w : World) (hn : zs.length ≤ 1048576) (h : TreeV w w.heap.size v ps ws) (hu : IntsV w w.heap.size u zs) :
    Calls Try.prog 74 #[v, u] w (Gives (.bool (procB ps ws zs)) w) := by
  have G := Lib.hid (fun w' (hb : Below w.heap.size w w') => goodS ps ws v w' (h.boxed hb))
  obtain ⟨v1, v2, rfl, ⟨p1, c1, rfl, l1, m1, _, i1⟩, ⟨p2, c2, rfl, l2, m2, _, i2⟩⟩ := h
  unfold maxLen at m1
  obtain ⟨q, cq, rfl, lq, mq, zq, iq⟩ := hu
  have E1 := Lib.hid iq
  clear iq zq mq i1 i2 m2
  have D : Hid (procB ps ws zs = (goodT ps ws && (decide (zs.length = ps.length) && withinB 999 zs))) := Lib.hid rfl
  have B1 := (Below.refl w.heap.size w).alloc (Nat.le_refl _) (.cells #[.slice p1 ps.length c1, .slice p2 ws.length c2] 28)
  have T1 := Lib.hid (show TBox (w.alloc (.cells #[.slice p1 ps.length c1, .slice p2 ws.length c2] 28)) w.heap.size (.slice p1 ps.length c1) (.slice p2 ws.length c2) from alloc_heap w _)
  obtain ⟨wa, hwa⟩ : ∃ wa, wa = w.alloc (.cells #[.slice p1 ps.length c1, .slice p2 ws.length c2] 28) := ⟨_, rfl⟩
  rw [← hwa] at B1 T1
  have HBA := Lib.hid B1
  clear B1
  go_enter Try.func74, Try.ntmps74
  go_wp2
  rw [← hwa]
  clear hwa
  go_loopw [5] (fun i wr => ∃ k : Nat, k ≤ zs.length ∧ i = .int .i64 k ∧ Hid (∀ j, j < k → -999 ≤ zs.getD j 0 ∧ zs.getD j 0 ≤ 999) ∧ ∃ n, wr = wa.drewN n) (fun i _ => zs.length - (intOf i).toNat)
  case atStart => exact ⟨0, Nat.zero_le _, rfl, Lib.hid (fun j hj => by omega), 0, rfl⟩
  case round =>
    obtain ⟨k, hk, rfl, HA, n, rfl⟩ := hrel
    by_cases hlt : k < zs.length
    · obtain ⟨b, off, rfl, hb, hc⟩ := E1.out.get hlt
      have hcw : wa.cell? ⟨b, off + k, none⟩ = some (.int .i64 (zs.getD k 0)) := by rw [HBA.out.cell (p := ⟨b, off + k, none⟩) hb]; exact hc
      have i0 : (0 : Int) ≤ (k : Int) := by omega
      have i1 : (k : Int) < (zs.length : Int) := by omega
      have NO := Lib.hid (within_no (m := 999) hlt)
      have NX : Hid (-999 ≤ zs.getD k 0 ∧ zs.getD k 0 ≤ 999 → ∀ j, j < k + 1 → -999 ≤ zs.getD j 0 ∧ zs.getD j 0 ≤ 999) := Lib.hid (fun h j hj => by
        rcases Nat.lt_or_ge j k with h' | h'
        · exact HA.out j h'
        · obtain rfl : j = k := by omega
          exact h)
      obtain ⟨z, hz⟩ : ∃ z, z = zs.getD k 0 := ⟨_, rfl⟩
      rw [← hz] at hcw NO NX
      clear hc hz HA
      by_cases hin : -999 ≤ z ∧ z ≤ 999
      · have I := Lib.hid (fun w => inS_true z (-999) 999 w hin)
        have N2 := Lib.hid (NX.out hin)
        clear NX NO hin
        go_wp2_with fail
        refine (I.out _).mono ?_
        rintro e w1 ⟨rfl, rfl⟩
        go_wp2_with fail
        go_roundw
        case rel => exact ⟨k + 1, by omega, by go_num, N2, _, rfl⟩
        case measure => simp [intOf]; omega
      · have I := Lib.hid (fun w => inS_false z (-999) 999 w hin)
        have N2 := Lib.hid (NO.out hin)
        have R := Lib.hid (show procB ps ws zs = false by rw [D.out, N2.out, Bool.and_false, Bool.and_false])
        clear NX NO hin N2
        go_wp2_with fail
        refine (I.out _).mono ?_
        rintro e w1 ⟨rfl, rfl⟩
        go_wp2_with fail
        go_ret
        exact ⟨ret_b R.out, below_drewN HBA.out n⟩
    · have WI : Hid (withinB 999 zs = true) := Lib.hid (within_yes (fun i hi => HA.out i (by omega)))
      have R := Lib.hid (show procB ps ws zs = (goodT ps ws && decide (zs.length = ps.length)) by rw [D.out, WI.out, Bool.and_true])
      have HBN : Hid (Below w.heap.size w (wa.drewN n)) := Lib.hid (below_drewN HBA.out n)
      have TN : Hid (TBox (wa.drewN n) w.heap.size (.slice p1 ps.length c1) (.slice p2 ws.length c2)) := T1
      obtain ⟨wb, hwb⟩ : ∃ wb, wb = wa.drewN n := ⟨_, rfl⟩
      rw [← hwb] at HBN TN ⊢
      obtain ⟨x0, x1⟩ := TN.out.cells
      clear hwb HA WI
      cases hg : goodT ps ws
      · rw [hg] at G R
        clear hg
        go_wp2_with fail
        refine (G.out _ HBN.out).mono ?_
        rintro e w1 ⟨rfl, b1⟩
        have HB1 := Lib.hid (HBN.out.trans (b1.mono HBN.out.size))
        clear b1
        go_wp2_with fail
        go_ret
        exact ⟨ret_b (by rw [R.out]; rfl), HB1.out⟩
      · rw [hg] at G R
        clear hg
        have R2 : Hid (procB ps ws zs = ((zs.length : Int) == (ps.length : Int))) := Lib.hid (by
          rw [R.out, Bool.true_and, Bool.eq_iff_iff, decide_eq_true_iff, beq_iff_eq]; omega)
        go_wp2_with fail
        refine (G.out _ HBN.out).mono ?_
        rintro e w1 ⟨rfl, b1⟩
        have HB1 := Lib.hid (HBN.out.trans (b1.mono HBN.out.size))
        obtain ⟨y0, y1⟩ := (TN.out.below b1 TN.out.lt).cells
        clear b1 x0 x1
        go_wp2_with fail
        go_ret
        exact ⟨ret_b R2.out, HB1.out⟩
end Go.Proofs.Ytfpckfameebdnaa
