/- Fair and falling processes, in the model. -/
import Derived.Test.YtonlibncccljgaaSteP
import Derived.Test.YtonlibncccljgaaDriN
namespace Go.Proofs.Ytonlibncccljgaa
open Go.RowKit
set_option linter.unusedVariables false
set_option maxRecDepth 100000 in
set_option maxHeartbeats 4000000 in
theorem steadyS (ps ws zs : List Int) (fair : Bool) (v u : Value) (w : World) (pr : Proc ps ws zs) (h : TreeV w w.heap.size v ps ws) (hu : IntsV w w.heap.size u zs) :
    Calls Try.prog 75 #[v, u, .bool fair] w (Gives (.bool (steB ps ws zs fair)) w) := by
  have DI := Lib.hid (fun w' (hb : Below w.heap.size w w') => l3DriftsS ps ws zs v u w' pr (h.boxed hb) ((hu.below hb).more hb.size))
  have hn1 := pr.good.n1
  have hn24 := pr.good.n24
  have YES := Lib.hid (fun h => steB_yes (ps := ps) (ws := ws) (zs := zs) (fair := fair) h)
  have BAD := Lib.hid (fun (x : Nat) (hx : x < ps.length) h => steB_no (ps := ps) (ws := ws) (zs := zs) (fair := fair) hx h)
  obtain ⟨p1, c1, p2, c2, rfl⟩ := h.shape
  obtain ⟨q, d, rfl, _⟩ := hu
  clear h pr
  obtain ⟨A, hA⟩ : ∃ A, A = driA ps ws zs := ⟨_, rfl⟩
  obtain ⟨B, hB⟩ : ∃ B, B = driB ps ws zs := ⟨_, rfl⟩
  rw [← hA] at DI YES BAD
  rw [← hB] at DI
  clear hA hB
  generalize steB ps ws zs fair = bb at *
  have B1 := (Below.refl w.heap.size w).alloc (Nat.le_refl _) (.cells #[.slice p1 ps.length c1, .slice p2 ws.length c2] 29)
  obtain ⟨wa, hwa⟩ : ∃ wa, wa = w.alloc (.cells #[.slice p1 ps.length c1, .slice p2 ws.length c2] 29) := ⟨_, rfl⟩
  rw [← hwa] at B1
  have HBA := Lib.hid B1
  clear B1
  go_enter Try.func75, Try.ntmps75
  go_wp2_with fail
  rw [← hwa]
  clear hwa
  refine (DI.out _ HBA.out).mono ?_
  rintro e w1 ⟨um, rfl, o1, b1⟩
  obtain ⟨gm, cm, rfl, _, hgm⟩ := o1.shape hn1
  have HB1 := Lib.hid (HBA.out.trans (b1.mono HBA.out.size))
  have DM : Hid (∀ j, j < ps.length → w1.cell? ⟨gm, j * 2, none⟩ = some (.int .i64 (A j))) := Lib.hid (fun j hj => by
    have h0 := o1.cellGet (j := j * 2) (by omega)
    rw [(prL_at A B hj).1] at h0
    exact h0)
  clear b1 o1 DI HBA hgm
  go_wp2_with fail
  go_loopg [8] ps.length (fun gg i wr => ∃ k : Nat, k ≤ ps.length ∧ ps.length - k ≤ gg ∧ i = .int .i64 k ∧ (∃ m, wr = w1.drewN m) ∧ Hid (∀ j, j < k → steP fair (A j) = true))
  case atStart => exact ⟨0, Nat.zero_le _, by omega, rfl, ⟨0, rfl⟩, Lib.hid (fun j hj => by omega)⟩
  case round =>
    obtain ⟨k, hk, hgg, rfl, ⟨m, rfl⟩, HU⟩ := hrel
    by_cases hlt : k < ps.length
    · have m0 := DM.out k hlt
      have HB2 : Hid (Below w.heap.size w (w1.drewN m)) := Lib.hid (below_drewN HB1.out m)
      have BA := Lib.hid (fun h => BAD.out k hlt h)
      have i0' : (0 : Int) ≤ (k : Int) := by omega
      have i1' : (k : Int) < (ps.length : Int) := by omega
      have NX : Hid (steP fair (A k) = true → ∀ j, j < k + 1 → steP fair (A j) = true) := Lib.hid (fun h j hj => by
        rcases Nat.lt_or_ge j k with h' | h'
        · exact HU.out j h'
        · obtain rfl : j = k := by omega
          exact h)
      obtain ⟨a, ha⟩ : ∃ a, a = A k := ⟨_, rfl⟩
      rw [← ha] at m0 BA NX
      clear ha HU
      have ST : Hid (∀ f, steP f a = if f = true then a == 0 else decide (a ≤ 0)) := Lib.hid (fun f => rfl)
      by_cases h1 : 0 < a
      · have hd : decide (0 < a) = true := decide_eq_true h1
        have R := Lib.hid (BA.out (by
          rw [ST.out]; cases fair
          · show decide (a ≤ 0) = false; exact decide_eq_false (by omega)
          · show (a == 0) = false; rw [beq_eq_false_iff_ne]; omega))
        clear BA NX ST
        go_wp2_with fail
        go_ret
        exact ⟨ret_b R.out, HB2.out⟩
      · have hd : decide (0 < a) = false := decide_eq_false h1
        cases fair
        · have N2 := Lib.hid (NX.out (by rw [ST.out]; show decide (a ≤ 0) = true; exact decide_eq_true (by omega)))
          clear BA NX ST h1
          go_wp2_with fail
          go_roundg (ps.length - (k + 1))
          case rel => exact ⟨k + 1, by omega, by omega, by go_num, ⟨_, rfl⟩, N2⟩
          case measure => omega
        · by_cases h2 : a < 0
          · have hd2 : decide (a < 0) = true := decide_eq_true h2
            have R := Lib.hid (BA.out (by rw [ST.out]; show (a == 0) = false; rw [beq_eq_false_iff_ne]; omega))
            clear BA NX ST h1
            go_wp2_with fail
            go_ret
            exact ⟨ret_b R.out, HB2.out⟩
          · have hd2 : decide (a < 0) = false := decide_eq_false h2
            have N2 := Lib.hid (NX.out (by rw [ST.out]; show (a == 0) = true; rw [beq_iff_eq]; omega))
            clear BA NX ST h1 h2
            go_wp2_with fail
            go_roundg (ps.length - (k + 1))
            case rel => exact ⟨k + 1, by omega, by omega, by go_num, ⟨_, rfl⟩, N2⟩
            case measure => omega
    · have R := Lib.hid (YES.out (fun x hx => HU.out x (by omega)))
      have HB2 : Hid (Below w.heap.size w (w1.drewN m)) := Lib.hid (below_drewN HB1.out m)
      go_wp2
      go_ret
      exact ⟨ret_b R.out, HB2.out⟩
set_option maxRecDepth 100000 in
set_option maxHeartbeats 4000000 in
theorem isFairM (ps ws zs : List Int) (v u : Value) (w : World) (hn9 : zs.length ≤ 1048576) (h : TreeV w w.heap.size v ps ws) (hu : IntsV w w.heap.size u zs) :
    Calls Try.prog 25 #[v, u] w (Gives (steV ps ws zs true) w) := by
  have PB := Lib.hid (fun w' (hb : Below w.heap.size w w') => procS ps ws zs v u w' hn9 (h.boxed hb) ((hu.below hb).more hb.size))
  have MS := Lib.hid (fun (p : Proc ps ws zs) w' (hb : Below w.heap.size w w') => steadyS ps ws zs true v u w' p (h.boxed hb) ((hu.below hb).more hb.size))
  obtain ⟨p1, c1, p2, c2, rfl⟩ := h.shape
  obtain ⟨q, d, rfl, _⟩ := hu
  clear h
  have B1 := (Below.refl w.heap.size w).alloc (Nat.le_refl _) (.cells #[.slice p1 ps.length c1, .slice p2 ws.length c2] 29)
  have K0 := alloc_heap w (.cells #[.slice p1 ps.length c1, .slice p2 ws.length c2] 29)
  obtain ⟨wa, hwa⟩ : ∃ wa, wa = w.alloc (.cells #[.slice p1 ps.length c1, .slice p2 ws.length c2] 29) := ⟨_, rfl⟩
  rw [← hwa] at B1 K0
  have T1 := Lib.hid (show TBox wa w.heap.size (.slice p1 ps.length c1) (.slice p2 ws.length c2) from K0)
  have HBA := Lib.hid B1
  clear K0 B1
  obtain ⟨x0, x1⟩ := T1.out.cells
  cases hp : procB ps ws zs
  · rw [hp] at PB
    have R := Lib.hid (steV_no (fair := true) hp)
    clear hp MS
    go_enter Try.func25, Try.ntmps25
    go_wp2_with fail
    rw [← hwa]
    clear hwa
    refine (PB.out _ HBA.out).mono ?_
    rintro e w1 ⟨rfl, b1⟩
    have HB1 := Lib.hid (HBA.out.trans (b1.mono HBA.out.size))
    clear b1
    go_wp2_with fail
    go_ret2
    exact ⟨by rw [R.out]; rfl, HB1.out⟩
  · have MP := Lib.hid (MS.out (procB_iff.1 hp))
    have R := Lib.hid (steV_ok (fair := true) hp)
    rw [hp] at PB
    clear hp MS
    generalize steB ps ws zs true = bb at *
    go_enter Try.func25, Try.ntmps25
    go_wp2_with fail
    rw [← hwa]
    clear hwa
    refine (PB.out _ HBA.out).mono ?_
    rintro e w1 ⟨rfl, b1⟩
    have HB1 := Lib.hid (HBA.out.trans (b1.mono HBA.out.size))
    clear x0 x1
    obtain ⟨x0, x1⟩ := (T1.out.below b1 T1.out.lt).cells
    clear b1
    go_wp2_with fail
    refine (MP.out _ HB1.out).mono ?_
    rintro e w5 ⟨rfl, b5⟩
    have HB5 := Lib.hid (HB1.out.trans (b5.mono HB1.out.size))
    clear b5
    go_wp2_with fail
    go_ret2
    exact ⟨by rw [R.out]; rfl, HB5.out⟩
set_option maxRecDepth 100000 in
set_option maxHeartbeats 4000000 in
theorem isFallM (ps ws zs : List Int) (v u : Value) (w : World) (hn9 : zs.length ≤ 1048576) (h : TreeV w w.heap.size v ps ws) (hu : IntsV w w.heap.size u zs) :
    Calls Try.prog 27 #[v, u] w (Gives (steV ps ws zs false) w) := by
  have PB := Lib.hid (fun w' (hb : Below w.heap.size w w') => procS ps ws zs v u w' hn9 (h.boxed hb) ((hu.below hb).more hb.size))
  have MS := Lib.hid (fun (p : Proc ps ws zs) w' (hb : Below w.heap.size w w') => steadyS ps ws zs false v u w' p (h.boxed hb) ((hu.below hb).more hb.size))
  obtain ⟨p1, c1, p2, c2, rfl⟩ := h.shape
  obtain ⟨q, d, rfl, _⟩ := hu
  clear h
  have B1 := (Below.refl w.heap.size w).alloc (Nat.le_refl _) (.cells #[.slice p1 ps.length c1, .slice p2 ws.length c2] 29)
  have K0 := alloc_heap w (.cells #[.slice p1 ps.length c1, .slice p2 ws.length c2] 29)
  obtain ⟨wa, hwa⟩ : ∃ wa, wa = w.alloc (.cells #[.slice p1 ps.length c1, .slice p2 ws.length c2] 29) := ⟨_, rfl⟩
  rw [← hwa] at B1 K0
  have T1 := Lib.hid (show TBox wa w.heap.size (.slice p1 ps.length c1) (.slice p2 ws.length c2) from K0)
  have HBA := Lib.hid B1
  clear K0 B1
  obtain ⟨x0, x1⟩ := T1.out.cells
  cases hp : procB ps ws zs
  · rw [hp] at PB
    have R := Lib.hid (steV_no (fair := false) hp)
    clear hp MS
    go_enter Try.func27, Try.ntmps27
    go_wp2_with fail
    rw [← hwa]
    clear hwa
    refine (PB.out _ HBA.out).mono ?_
    rintro e w1 ⟨rfl, b1⟩
    have HB1 := Lib.hid (HBA.out.trans (b1.mono HBA.out.size))
    clear b1
    go_wp2_with fail
    go_ret2
    exact ⟨by rw [R.out]; rfl, HB1.out⟩
  · have MP := Lib.hid (MS.out (procB_iff.1 hp))
    have R := Lib.hid (steV_ok (fair := false) hp)
    rw [hp] at PB
    clear hp MS
    generalize steB ps ws zs false = bb at *
    go_enter Try.func27, Try.ntmps27
    go_wp2_with fail
    rw [← hwa]
    clear hwa
    refine (PB.out _ HBA.out).mono ?_
    rintro e w1 ⟨rfl, b1⟩
    have HB1 := Lib.hid (HBA.out.trans (b1.mono HBA.out.size))
    clear x0 x1
    obtain ⟨x0, x1⟩ := (T1.out.below b1 T1.out.lt).cells
    clear b1
    go_wp2_with fail
    refine (MP.out _ HB1.out).mono ?_
    rintro e w5 ⟨rfl, b5⟩
    have HB5 := Lib.hid (HB1.out.trans (b5.mono HB1.out.size))
    clear b5
    go_wp2_with fail
    go_ret2
    exact ⟨by rw [R.out]; rfl, HB5.out⟩
end Go.Proofs.Ytonlibncccljgaa
