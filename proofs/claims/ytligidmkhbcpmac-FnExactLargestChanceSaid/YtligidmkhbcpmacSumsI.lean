/- SumsOf in the program. -/
import Derived.Test.YtligidmkhbcpmacSumS
namespace Go.Proofs.Ytligidmkhbcpmac
open Go.RowKit
set_option linter.unusedVariables false
/-- The part of SumsOf. -/
theorem sumsPart (ps ws : List Int) (v1 v2 : Value) (w W0 : World) (B : Nat) (gd : Good ps ws) (hbox : TBox W0 B v1 v2) (h : TreeV w w.heap.size (.agg #[v1, v2]) ps ws) (h0 : Below w.heap.size w W0) :
    PartI 217 #[.pointer (some ⟨B, 0, none⟩)] ps ws W0 := by
  intro W x hx hl hb
  obtain ⟨x0, x1⟩ := (hbox.below hb hbox.lt).cells
  obtain ⟨_, _, e, _, ⟨p2, c2, e2, _, m2, _, i2⟩⟩ := h
  obtain ⟨_, rfl⟩ : v1 = v1 ∧ v2 = .slice p2 ws.length c2 := by simp at e; exact ⟨rfl, by rw [e.2, e2]⟩
  clear e e2
  obtain ⟨b, off, rfl, hb2, hc⟩ := IntsAt.get i2 (i := x) (by rw [gd.nw]; exact hx)
  have hb3 := h0.trans (hb.mono h0.size)
  have hcw : W.cell? ⟨b, off + x, none⟩ = some (.int .i64 (ws.getD x 0)) := by rw [hb3.cell (p := ⟨b, off + x, none⟩) hb2, hc]
  have i0 : (0 : Int) ≤ (x : Int) := by omega
  have i1 : (x : Int) < (ws.length : Int) := by rw [gd.nw]; omega
  unfold maxLen at m2
  generalize ws.getD x 0 = z at *
  clear hc i2 hb hb3 h0 gd hbox hl hx
  show Calls _ _ #[.int .i64 x, .pointer (some ⟨B, 0, none⟩)] _ _
  go_enter Try.func217, Try.ntmps217
  go_wp2
  go_ret
  exact ⟨rfl, Below.refl _ _⟩
set_option maxHeartbeats 2000000 in
theorem sumsI (ps ws : List Int) (v : Value) (w : World) (h : TreeV w w.heap.size v ps ws) :
    Calls Try.prog 193 #[v] w (NewIntsB (ifGood ps ws (sumsT ps ws)) (goodT ps ws) w) := by
  have TV := Lib.hid h
  have G := Lib.hid (fun w' (hb : Below w.heap.size w w') => isTreeI ps ws v w' (h.boxed hb))
  obtain ⟨v1, v2, rfl, ⟨p1, c1, rfl, l1, m1, _, i1⟩, ⟨p2, c2, rfl, l2, m2, _, i2⟩⟩ := h
  clear i1 i2
  have B1 := (Below.refl w.heap.size w).alloc (Nat.le_refl _) (.cells #[.slice p1 ps.length c1, .slice p2 ws.length c2] 29)
  have T1 := Lib.hid (show TBox (w.alloc (.cells #[.slice p1 ps.length c1, .slice p2 ws.length c2] 29)) w.heap.size (.slice p1 ps.length c1) (.slice p2 ws.length c2) from alloc_heap w _)
  have hmf : ∀ (fn : Fn) (first cap : Array Value) (w : World), (Instr.makeFunc fn first cap).run Try.prog w = .ok (.func fn first cap) w := fun _ _ _ _ => rfl
  cases hg : goodT ps ws
  · rw [hg] at G
    have IG := Lib.hid (show ifGood ps ws (sumsT ps ws) = [] from by unfold ifGood; rw [hg]; rfl)
    clear hg
    go_enter Try.func193, Try.ntmps193
    go_wp2_with fail
    refine (G.out _ B1).mono ?_
    rintro e w1 ⟨rfl, b1⟩
    have HB1 := Lib.hid (B1.trans (b1.mono B1.size))
    clear b1
    go_wp2_with fail
    go_ret2
    rw [IG.out]
    exact newInts_empty HB1.out
  · rw [hg] at G
    have IG := Lib.hid (show ifGood ps ws (sumsT ps ws) = sumsT ps ws from by unfold ifGood; rw [hg]; rfl)
    have gd := Lib.hid (Good.of hg)
    clear hg
    go_enter Try.func193, Try.ntmps193
    go_wp2_with fail
    refine (G.out _ B1).mono ?_
    rintro e w1 ⟨rfl, b1⟩
    have HB1 := Lib.hid (B1.trans (b1.mono B1.size))
    have HT1 := Lib.hid (T1.out.below b1 (by simp))
    clear b1
    obtain ⟨x0, x1⟩ := HT1.out.cells
    have C := Lib.hid (sumUpI ps ws ws _ 217 #[.pointer (some ⟨w.heap.size, 0, none⟩)] w1 (enters_of Try.func217 (by kernel_rfl) rfl) gd.out (TV.out.boxed HB1.out) gd.out.nw (fun y hy hl => gd.out.inner y hy hl) (by have := ws_abs gd.out; omega) (sumsPart ps ws _ _ w w1 w.heap.size gd.out HT1.out TV.out HB1.out))
    go_wp2_with fail
    refine C.out.mono ?_
    rintro e w2 ⟨u, rfl, o2, b2⟩
    have FIN := Lib.hid (newInts_back HB1.out o2 b2)
    clear o2 b2
    go_wp2_with fail
    go_ret2
    rw [IG.out]
    exact FIN.out
end Go.Proofs.Ytligidmkhbcpmac
