/- Markets, in the model. -/
import Derived.Test.YtamneibnjbimeaaMktH
import Derived.Test.YtamneibnjbimeaaMktP
import Derived.Test.YtamneibnjbimeaaGoodS
import Derived.Test.YtamneibnjbimeaaInS
namespace Go.Proofs.Ytamneibnjbimeaa
open Go.RowKit
set_option linter.unusedVariables false
set_option maxHeartbeats 2000000 in
theorem mktS (ps ws cs : List Int) (v : Value) (w : World) (hn : cs.length ≤ 1048576) (h : MktV w w.heap.size v ps ws cs) :
    Calls Try.prog 40 #[v] w (Gives (.bool (goodM ps ws cs)) w) := by
  obtain ⟨p1, c1, p2, c2, p3, c3, rfl⟩ := h.shape
  have G := Lib.hid (fun w' (hb : Below w.heap.size w w') => goodS ps ws _ w' (h.tree.1.boxed hb))
  obtain ⟨q3, d3, e3, _, _, _, i3⟩ := h.tree.2
  injection e3 with e3 e4 e5
  subst e3
  subst e5
  clear e4
  have E1 := Lib.hid i3
  clear i3
  have D : Hid (goodM ps ws cs = (goodT ps ws && (decide (cs.length = ps.length) && pricesB cs))) := Lib.hid rfl
  clear h
  have B1 := (Below.refl w.heap.size w).alloc (Nat.le_refl _) (.cells #[.slice p1 ps.length c1, .slice p2 ws.length c2, .slice p3 cs.length c3] 31)
  have T1 := Lib.hid (show KBox (w.alloc (.cells #[.slice p1 ps.length c1, .slice p2 ws.length c2, .slice p3 cs.length c3] 31)) w.heap.size (.slice p1 ps.length c1) (.slice p2 ws.length c2) (.slice p3 cs.length c3) from alloc_heap w _)
  obtain ⟨wa, hwa⟩ : ∃ wa, wa = w.alloc (.cells #[.slice p1 ps.length c1, .slice p2 ws.length c2, .slice p3 cs.length c3] 31) := ⟨_, rfl⟩
  rw [← hwa] at B1 T1
  obtain ⟨x0, x1, x2⟩ := T1.out.cells
  have HBA := Lib.hid B1
  clear B1
  cases hg : goodT ps ws
  · rw [hg] at G D
    clear hg
    go_enter Try.func40, Try.ntmps40
    go_wp2_with fail
    rw [← hwa]
    clear hwa
    refine (G.out _ HBA.out).mono ?_
    rintro e w1 ⟨rfl, b1⟩
    have HB1 := Lib.hid (HBA.out.trans (b1.mono HBA.out.size))
    clear b1
    go_wp2_with fail
    go_ret
    exact ⟨ret_b (by rw [D.out]; rfl), HB1.out⟩
  · rw [hg] at G D
    clear hg
    by_cases hl : cs.length = ps.length
    · rw [decide_eq_true hl] at D
      have t1 : ((cs.length : Int) != (ps.length : Int)) = false := by simpa using (show (cs.length : Int) = (ps.length : Int) by omega)
      have YES := Lib.hid (prices_yes (cs := cs))
      have NOP := Lib.hid (fun i hi h => prices_no (cs := cs) (i := i) hi h)
      have HN := Lib.hid hl
      clear hl
      go_enter Try.func40, Try.ntmps40
      go_wp2_with fail
      rw [← hwa]
      clear hwa
      refine (G.out _ HBA.out).mono ?_
      rintro e w1 ⟨rfl, b1⟩
      have HB1 := Lib.hid (HBA.out.trans (b1.mono HBA.out.size))
      have HT1 := Lib.hid (T1.out.below b1 T1.out.lt)
      obtain ⟨y0, y1, y2⟩ := HT1.out.cells
      clear b1 x0 x1 x2
      go_wp2_with fail
      go_loopw [3] (fun i wr => ∃ k : Nat, k ≤ cs.length ∧ i = .int .i64 k ∧ Hid (∀ j, j < k → 0 ≤ cs.getD j 0 ∧ cs.getD j 0 ≤ 20) ∧ ∃ n, wr = w1.drewN n) (fun i _ => cs.length - (intOf i).toNat)
      case atStart => exact ⟨0, Nat.zero_le _, rfl, Lib.hid (fun j hj => by omega), 0, rfl⟩
      case round =>
        obtain ⟨k, hk, rfl, HA, n, rfl⟩ := hrel
        by_cases hlt : k < cs.length
        · obtain ⟨b, off, rfl, hb, hc⟩ := E1.out.get hlt
          have hcw : w1.cell? ⟨b, off + k, none⟩ = some (.int .i64 (cs.getD k 0)) := by rw [HB1.out.cell (p := ⟨b, off + k, none⟩) hb]; exact hc
          have i0 : (0 : Int) ≤ (k : Int) := by omega
          have i1 : (k : Int) < (cs.length : Int) := by omega
          have NO := Lib.hid (NOP.out k hlt)
          have NX : Hid (0 ≤ cs.getD k 0 ∧ cs.getD k 0 ≤ 20 → ∀ j, j < k + 1 → 0 ≤ cs.getD j 0 ∧ cs.getD j 0 ≤ 20) := Lib.hid (fun h j hj => by
            rcases Nat.lt_or_ge j k with h' | h'
            · exact HA.out j h'
            · obtain rfl : j = k := by omega
              exact h)
          obtain ⟨z, hz⟩ : ∃ z, z = cs.getD k 0 := ⟨_, rfl⟩
          rw [← hz] at hcw NO NX
          clear hc hz HA
          by_cases hin : 0 ≤ z ∧ z ≤ 20
          · have I := Lib.hid (fun w => inS_true z 0 20 w hin)
            have N2 := Lib.hid (NX.out hin)
            clear NX NO hin
            go_wp2_with fail
            refine (I.out _).mono ?_
            rintro e w1 ⟨rfl, rfl⟩
            go_wp2_with fail
            go_roundw
            case rel => exact ⟨k + 1, by omega, by go_num, N2, _, rfl⟩
            case measure => simp [intOf]; omega
          · have I := Lib.hid (fun w => inS_false z 0 20 w hin)
            have N2 := Lib.hid (NO.out hin)
            clear NX NO hin
            go_wp2_with fail
            refine (I.out _).mono ?_
            rintro e w1 ⟨rfl, rfl⟩
            go_wp2_with fail
            go_ret
            exact ⟨ret_b (by rw [D.out, N2.out]; rfl), below_drewN HB1.out n⟩
        · have R := Lib.hid (YES.out (fun i hi => HA.out i (by omega)))
          clear HA
          go_wp2_with fail
          go_ret
          exact ⟨ret_b (by rw [D.out, R.out]; rfl), below_drewN HB1.out n⟩
    · rw [decide_eq_false hl] at D
      have t1 : ((cs.length : Int) != (ps.length : Int)) = true := by simpa using (show ¬ (cs.length : Int) = (ps.length : Int) by omega)
      clear hl
      go_enter Try.func40, Try.ntmps40
      go_wp2_with fail
      rw [← hwa]
      clear hwa
      refine (G.out _ HBA.out).mono ?_
      rintro e w1 ⟨rfl, b1⟩
      have HB1 := Lib.hid (HBA.out.trans (b1.mono HBA.out.size))
      obtain ⟨y0, y1, y2⟩ := (T1.out.below b1 T1.out.lt).cells
      clear b1 x0 x1 x2
      go_wp2_with fail
      go_ret
      exact ⟨ret_b (by rw [D.out]; rfl), HB1.out⟩
set_option maxHeartbeats 2000000 in
theorem isMktS (ps ws cs : List Int) (v : Value) (w : World) (hn : cs.length ≤ 1048576) (h : MktV w w.heap.size v ps ws cs) :
    Calls Try.prog 13 #[v] w (Gives (.bool (goodM ps ws cs)) w) := by
  have G := Lib.hid (fun w' (hb : Below w.heap.size w w') => mktS ps ws cs v w' hn (h.boxed hb))
  obtain ⟨p1, c1, p2, c2, p3, c3, rfl⟩ := h.shape
  clear h
  have B1 := (Below.refl w.heap.size w).alloc (Nat.le_refl _) (.cells #[.slice p1 ps.length c1, .slice p2 ws.length c2, .slice p3 cs.length c3] 31)
  have T1 := Lib.hid (show KBox (w.alloc (.cells #[.slice p1 ps.length c1, .slice p2 ws.length c2, .slice p3 cs.length c3] 31)) w.heap.size (.slice p1 ps.length c1) (.slice p2 ws.length c2) (.slice p3 cs.length c3) from alloc_heap w _)
  obtain ⟨x0, x1, x2⟩ := T1.out.cells
  go_enter Try.func13, Try.ntmps13
  go_wp2_with fail
  refine (G.out _ B1).mono ?_
  rintro e w1 ⟨rfl, b1⟩
  have HB1 := Lib.hid (B1.trans (b1.mono B1.size))
  clear b1
  go_wp2_with fail
  go_ret
  exact ⟨rfl, HB1.out⟩
end Go.Proofs.Ytamneibnjbimeaa
