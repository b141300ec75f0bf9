/- Whether a value is a tree, in the model. -/
import Derived.Test.YtligidmkhbcpmacRow
import Derived.Test.YtligidmkhbcpmacFracS
namespace Go.Proofs.Ytligidmkhbcpmac
open Go.RowKit
set_option linter.unusedVariables false
theorem kidsF_nil {ps : List Int} (hp : ∀ y, y < ps.length → parOk ps y = true) (x : Nat) : kidsF ps x ps.length = [] ↔ leafB ps x = true := by
  rw [leafB_iff]
  unfold kidsF nodesW
  rw [List.map_eq_nil_iff, List.filter_eq_nil_iff]
  constructor
  · intro h y hy e
    refine h y (List.mem_range.2 hy) ?_
    have hg := hp y hy
    have : x < y := by
      by_cases h0 : y = 0
      · subst h0; rw [parOk_zero] at hg; have := of_decide_eq_true hg; omega
      · rw [parOk_pos ps (by omega)] at hg; have := of_decide_eq_true hg; omega
    rw [Bool.and_eq_true, decide_eq_true_eq, beq_iff_eq]
    exact ⟨by omega, e⟩
  · intro h y hy
    rw [Bool.and_eq_true, decide_eq_true_eq, beq_iff_eq]
    exact fun ⟨_, e⟩ => h y (List.mem_range.1 hy) e
theorem TreeV.boxed {w : World} {v : Value} {ps ws : List Int} (h : TreeV w w.heap.size v ps ws) {w1 : World} (hb : Below w.heap.size w w1) : TreeV w1 w1.heap.size v ps ws := (h.below hb).more hb.size
set_option maxRecDepth 100000 in
set_option maxHeartbeats 2000000 in
theorem goodS (ps ws : List Int) (v : Value) (w : World) (h : TreeV w w.heap.size v ps ws) :
    Calls Try.prog 190 #[v] w fun e w' => e = .returned (.bool (goodT ps ws)) ∧ Below w.heap.size w w' := by
  have TV := Lib.hid h
  obtain ⟨v1, v2, rfl, ⟨p1, c1, rfl, l1, m1, _, i1⟩, ⟨p2, c2, rfl, l2, m2, _, i2⟩⟩ := h
  unfold maxLen at m1 m2
  have P1 := Lib.hid i1
  have P2 := Lib.hid i2
  clear i1 i2
  have B1 := (Below.refl w.heap.size w).alloc (Nat.le_refl _) (.cells #[.slice p1 ps.length c1, .slice p2 ws.length c2] 29)
  by_cases hlen : 1 ≤ ps.length ∧ ps.length ≤ 24 ∧ ws.length = ps.length
  · obtain ⟨h1, h24, hw⟩ := hlen
    have I0 := Lib.hid (fun w => inS_true (ps.length : Int) 1 24 w (by omega))
    rw [hw] at B1 TV ⊢
    have HW := Lib.hid hw
    clear hw
    have T1 := Lib.hid (show TBox (w.alloc (.cells #[.slice p1 ps.length c1, .slice p2 ps.length c2] 29)) w.heap.size (.slice p1 ps.length c1) (.slice p2 ps.length c2) from alloc_heap w _)
    have B1' := Lib.hid B1
    clear B1
    go_enter Try.func190, Try.ntmps190
    go_wp2_with fail
    refine (I0.out _).mono ?_
    rintro e w1 ⟨rfl, rfl⟩
    go_wp2_with fail
    go_loop [4] (fun i => ∃ k : Nat, k ≤ ps.length ∧ i = .int .i64 k ∧ Hid (∀ y, y < k → parOk ps y = true)) (fun i => ps.length - (intOf i).toNat)
    case atStart => exact ⟨0, Nat.zero_le _, rfl, Lib.hid (fun y hy => by omega)⟩
    case round =>
      obtain ⟨k, hk, rfl, HP⟩ := hrel
      by_cases hlt : k < ps.length
      · obtain ⟨b, off, rfl, hb, hc⟩ := P1.out.get hlt
        have FP := Lib.hid (goodT_false_par (ps := ps) (ws := ws) (y := k) hlt)
        have NX : Hid (parOk ps k = true → ∀ y, y < k + 1 → parOk ps y = true) := Lib.hid (fun h y hy => by
          rcases Nat.lt_or_ge y k with h' | h'
          · exact HP.out y h'
          · obtain rfl : y = k := by omega
            exact h)
        have i0 : (0 : Int) ≤ (k : Int) := by omega
        have i1 : (k : Int) < (ps.length : Int) := by omega
        have PZ := Lib.hid (parOk_zero ps)
        have PK := Lib.hid (fun h => parOk_pos ps (y := k) h)
        obtain ⟨z, hz⟩ : ∃ z, z = ps.getD k 0 := ⟨_, rfl⟩
        rw [← hz] at hc PK
        by_cases hk0 : k = 0
        · subst hk0
          rw [← hz] at PZ
          rw [Nat.add_zero] at hc
          clear hz PK
          by_cases hr : z = -1
          · subst hr
            have N2 := Lib.hid (NX.out (by rw [PZ.out]; rfl))
            clear NX PZ FP
            go_wp2_with fail
            go_round
            case rel => exact ⟨1, by omega, by go_num, N2⟩
            case measure => simp [intOf]; omega
          · have R := Lib.hid (FP.out (by rw [PZ.out]; simpa using hr))
            have hr' : (z != -1) = true := by simpa using hr
            clear NX PZ FP hr
            go_wp2_with fail
            go_ret
            exact ⟨ret_b R.out, B1'.out⟩
        · have k0 : ((k : Int) == 0) = false := by simp; omega
          have k1 : (0 : Int) < (k : Int) := by omega
          clear PZ hz
          by_cases hr : 0 ≤ z ∧ z < (k : Int)
          · have N2 := Lib.hid (NX.out (by rw [PK.out (by omega)]; simpa using hr))
            have I := Lib.hid (fun w => inS_true z 0 ((k : Int) - 1) w (by omega))
            clear NX PK FP hr hk0
            go_wp2_with fail
            refine (I.out _).mono ?_
            rintro e w1 ⟨rfl, rfl⟩
            go_wp2_with fail
            go_round
            case rel => exact ⟨k + 1, by omega, by go_num, N2⟩
            case measure => simp [intOf]; omega
          · have R := Lib.hid (FP.out (by rw [PK.out (by omega)]; simpa using hr))
            have I := Lib.hid (fun w => inS_false z 0 ((k : Int) - 1) w (by omega))
            clear NX PK FP hr hk0
            go_wp2_with fail
            refine (I.out _).mono ?_
            rintro e w1 ⟨rfl, rfl⟩
            go_wp2_with fail
            go_ret
            exact ⟨ret_b R.out, B1'.out⟩
      · have HP' := Lib.hid (fun y (hy : y < ps.length) => HP.out y (by omega))
        have hkn : k = ps.length := by omega
        have KN := Lib.hid hkn
        clear HP hkn
        go_wp2_with fail
        go_loopw [5] (fun i wr => ∃ x : Nat, x ≤ ps.length ∧ i = .int .i64 x ∧ Hid (∀ y, y < x → wtOk ps ws y = true) ∧ Hid (TBox wr w.heap.size (.slice p1 ps.length c1) (.slice p2 ps.length c2)) ∧ Hid (Below w.heap.size w wr)) (fun i _ => ps.length - (intOf i).toNat)
        case atStart => exact ⟨0, by omega, rfl, Lib.hid (fun y hy => by omega), T1, B1'⟩
        case round =>
          obtain ⟨x, hx, rfl, HX, HT, HB⟩ := hrel
          obtain ⟨x0, x1⟩ := HT.out.cells
          clear T1 B1'
          by_cases hlx : x < ps.length
          · obtain ⟨b2, off2, rfl, hb2, hc2⟩ := P2.out.get (i := x) (by have := HW.out; omega)
            have C := Lib.hid (fun w' (hb : Below w.heap.size w w') => kidsS ps ws _ x w' (by omega) (by omega) (TV.out.boxed hb))
            have KN := Lib.hid (kidsF_nil HP'.out x)
            have WL := Lib.hid (wtOk_leaf (ps := ps) (ws := ws) (x := x))
            have WI := Lib.hid (wtOk_inner (ps := ps) (ws := ws) (x := x))
            have FW := Lib.hid (goodT_false_wt (ps := ps) (ws := ws) (y := x) hlx)
            have NX : Hid (wtOk ps ws x = true → ∀ y, y < x + 1 → wtOk ps ws y = true) := Lib.hid (fun h y hy => by
              rcases Nat.lt_or_ge y x with h' | h'
              · exact HX.out y h'
              · obtain rfl : y = x := by omega
                exact h)
            have i0 : (0 : Int) ≤ (x : Int) := by omega
            have i1 : (x : Int) < (ps.length : Int) := by omega
            go_wp2_with fail
            refine (C.out _ HB.out).mono ?_
            rintro e w1 ⟨u1, rfl, o1, b1⟩
            obtain ⟨pk, ck, rfl, _⟩ := o1.intsV
            have HB1 := Lib.hid (HB.out.trans (b1.mono HB.out.size))
            have HT1 := Lib.hid (HT.out.below b1 HT.out.lt)
            clear b1 o1 x0 x1 C
            obtain ⟨x0, x1⟩ := HT1.out.cells
            have hcx : w1.cell? ⟨b2, off2 + x, none⟩ = some (.int .i64 (ws.getD x 0)) := by rw [HB1.out.cell (p := ⟨b2, off2 + x, none⟩) hb2]; exact hc2
            obtain ⟨z, hz⟩ : ∃ z, z = ws.getD x 0 := ⟨_, rfl⟩
            rw [← hz] at hcx WL WI
            obtain ⟨m, hm⟩ : ∃ m, m = (kidsF ps x ps.length).length := ⟨_, rfl⟩
            rw [← hm]
            have ML : Hid (m = 0 ↔ leafB ps x = true) := Lib.hid (by rw [hm, List.length_eq_zero_iff]; exact KN.out)
            clear hc2 hz hm KN HT HB
            cases hl : leafB ps x
            · have hm0 : ((m : Int) == 0) = false := by
                have : ¬ m = 0 := fun e => by have := ML.out.1 e; rw [hl] at this; cases this
                simp; omega
              by_cases hz : z = 0
              · subst hz
                have N2 := Lib.hid (NX.out (by rw [WI.out hl]; rfl))
                clear WL WI FW NX hl ML
                go_wp2_with fail
                go_roundw
                case rel => exact ⟨x + 1, by omega, by go_num, N2, HT1, HB1⟩
                case measure => simp [intOf]; omega
              · have R := Lib.hid (FW.out (by rw [WI.out hl]; simpa using hz))
                have hz' : (z != 0) = true := by simpa using hz
                clear WL WI FW NX hl hz ML
                go_wp2_with fail
                go_ret
                exact ⟨ret_b R.out, HB1.out⟩
            · obtain rfl : m = 0 := ML.out.2 hl
              by_cases hz : 1 ≤ z ∧ z ≤ 20
              · have N2 := Lib.hid (NX.out (by rw [WL.out hl]; simpa using hz))
                have I := Lib.hid (fun w => inS_true z 1 20 w hz)
                clear WL WI FW NX hl ML hz
                go_wp2_with fail
                refine (I.out _).mono ?_
                rintro e w2 ⟨rfl, rfl⟩
                go_wp2_with fail
                go_roundw
                case rel => exact ⟨x + 1, by omega, by go_num, N2, HT1, HB1⟩
                case measure => simp [intOf]; omega
              · have R := Lib.hid (FW.out (by rw [WL.out hl]; simpa using hz))
                have I := Lib.hid (fun w => inS_false z 1 20 w hz)
                clear WL WI FW NX hl ML hz
                go_wp2_with fail
                refine (I.out _).mono ?_
                rintro e w2 ⟨rfl, rfl⟩
                go_wp2_with fail
                go_ret
                exact ⟨ret_b R.out, HB1.out⟩
          · have R := Lib.hid (goodT_true ⟨h1, h24, HW.out⟩ HP'.out (fun y hy => HX.out y (by omega)))
            go_wp2_with fail
            go_ret
            exact ⟨ret_b R.out, HB.out⟩
  · rw [goodT_false_len hlen]
    by_cases hn : 1 ≤ ps.length ∧ ps.length ≤ 24
    · have I := Lib.hid (fun w => inS_true (ps.length : Int) 1 24 w (by omega))
      have hne : (ws.length != ps.length) = true := by simp; omega
      clear hlen
      go_enter Try.func190, Try.ntmps190
      go_wp2_with fail
      refine (I.out _).mono ?_
      rintro e w1 ⟨rfl, rfl⟩
      go_wp2_with fail
      go_ret
      exact ⟨rfl, B1⟩
    · have I := Lib.hid (fun w => inS_false (ps.length : Int) 1 24 w (by omega))
      clear hlen hn
      go_enter Try.func190, Try.ntmps190
      go_wp2_with fail
      refine (I.out _).mono ?_
      rintro e w1 ⟨rfl, rfl⟩
      go_wp2_with fail
      go_ret
      exact ⟨rfl, B1⟩
end Go.Proofs.Ytligidmkhbcpmac
