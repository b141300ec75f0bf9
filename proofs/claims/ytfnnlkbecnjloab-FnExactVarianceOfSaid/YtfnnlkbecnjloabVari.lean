/- VarianceOf, in the program and in the model. -/
import Derived.Test.YtfnnlkbecnjloabCovM
namespace Go.Proofs.Ytfnnlkbecnjloab
open Go.RowKit
set_option linter.unusedVariables false
set_option maxHeartbeats 2000000 in
theorem varI (ps ws a : List Int) (v ua : Value) (w : World) (hla : a.length ≤ 1048576) (h : TreeV w w.heap.size v ps ws) (ha : IntsV w w.heap.size ua a) :
    Calls Try.prog 44 #[v, ua] w (Gives (covV ps ws a a) w) := by
  have C := Lib.hid (fun w' (hb : Below w.heap.size w w') => covI ps ws a a v ua ua w' hla hla (h.boxed hb) ((ha.below hb).more hb.size) ((ha.below hb).more hb.size))
  obtain ⟨pn, pd, ok, hK⟩ := covV_form ps ws a a
  rw [hK] at C ⊢
  clear hK
  obtain ⟨p1, c1, p2, c2, rfl⟩ := h.shape
  obtain ⟨qa, da, rfl, _⟩ := ha
  clear h
  have B1 := ((Below.refl w.heap.size w).alloc (Nat.le_refl _) (.cells #[.slice p1 ps.length c1, .slice p2 ws.length c2] 29)).alloc (by simp) (.cells #[.int .i64 0, .int .i64 0] 26)
  have K0 := alloc_two w (.cells #[.slice p1 ps.length c1, .slice p2 ws.length c2] 29) (.cells #[.int .i64 0, .int .i64 0] 26)
  obtain ⟨wa, hwa⟩ : ∃ wa, wa = (w.alloc (.cells #[.slice p1 ps.length c1, .slice p2 ws.length c2] 29)).alloc (.cells #[.int .i64 0, .int .i64 0] 26) := ⟨_, rfl⟩
  rw [← hwa] at B1 K0
  have T1 := Lib.hid (show TBox wa w.heap.size (.slice p1 ps.length c1) (.slice p2 ws.length c2) from K0.1)
  have R1 := Lib.hid (show PBox wa (w.heap.size + 1) 0 0 from K0.2)
  have HBA := Lib.hid B1
  clear K0 B1
  obtain ⟨x0, x1⟩ := T1.out.cells
  go_enter Try.func44, Try.ntmps44
  go_wp2_with fail
  rw [← hwa]
  clear hwa
  refine (C.out _ HBA.out).mono ?_
  rintro e w1 ⟨rfl, b1⟩
  have HB1 := Lib.hid (HBA.out.trans (b1.mono HBA.out.size))
  obtain ⟨c0, c1, f0, f1⟩ := (R1.out.below b1 R1.out.lt).cells
  clear b1 x0 x1
  go_wp2_with fail
  refine bodyPost_ret (v := .tuple #[.agg #[.int .i64 pn, .int .i64 pd], .bool ok]) (by simp [results, Try.results44, go_sem, c0, c1]) rfl ⟨rfl, ?_⟩
  exact (HB1.out.setCell (p := ⟨w.heap.size + 1, 0, none⟩) (by simp) _).setCell (p := ⟨w.heap.size + 1, 1, none⟩) (by simp) _
set_option maxHeartbeats 2000000 in
theorem varM (ps ws a : List Int) (v ua : Value) (w : World) (hla : a.length ≤ 1048576) (h : TreeV w w.heap.size v ps ws) (ha : IntsV w w.heap.size ua a) :
    Calls Try.prog 43 #[v, ua] w (Gives (covV ps ws a a) w) := by
  have C := Lib.hid (fun w' (hb : Below w.heap.size w w') => covM ps ws a a v ua ua w' hla hla (h.boxed hb) ((ha.below hb).more hb.size) ((ha.below hb).more hb.size))
  obtain ⟨pn, pd, ok, hK⟩ := covV_form ps ws a a
  rw [hK] at C ⊢
  clear hK
  obtain ⟨p1, c1, p2, c2, rfl⟩ := h.shape
  obtain ⟨qa, da, rfl, _⟩ := ha
  clear h
  have B1 := ((Below.refl w.heap.size w).alloc (Nat.le_refl _) (.cells #[.slice p1 ps.length c1, .slice p2 ws.length c2] 29)).alloc (by simp) (.cells #[.int .i64 0, .int .i64 0] 26)
  have K0 := alloc_two w (.cells #[.slice p1 ps.length c1, .slice p2 ws.length c2] 29) (.cells #[.int .i64 0, .int .i64 0] 26)
  obtain ⟨wa, hwa⟩ : ∃ wa, wa = (w.alloc (.cells #[.slice p1 ps.length c1, .slice p2 ws.length c2] 29)).alloc (.cells #[.int .i64 0, .int .i64 0] 26) := ⟨_, rfl⟩
  rw [← hwa] at B1 K0
  have T1 := Lib.hid (show TBox wa w.heap.size (.slice p1 ps.length c1) (.slice p2 ws.length c2) from K0.1)
  have R1 := Lib.hid (show PBox wa (w.heap.size + 1) 0 0 from K0.2)
  have HBA := Lib.hid B1
  clear K0 B1
  obtain ⟨x0, x1⟩ := T1.out.cells
  go_enter Try.func43, Try.ntmps43
  go_wp2_with fail
  rw [← hwa]
  clear hwa
  refine (C.out _ HBA.out).mono ?_
  rintro e w1 ⟨rfl, b1⟩
  have HB1 := Lib.hid (HBA.out.trans (b1.mono HBA.out.size))
  obtain ⟨c0, c1, f0, f1⟩ := (R1.out.below b1 R1.out.lt).cells
  clear b1 x0 x1
  go_wp2_with fail
  refine bodyPost_ret (v := .tuple #[.agg #[.int .i64 pn, .int .i64 pd], .bool ok]) (by simp [results, Try.results43, go_sem, c0, c1]) rfl ⟨rfl, ?_⟩
  exact (HB1.out.setCell (p := ⟨w.heap.size + 1, 0, none⟩) (by simp) _).setCell (p := ⟨w.heap.size + 1, 1, none⟩) (by simp) _
end Go.Proofs.Ytfnnlkbecnjloab
