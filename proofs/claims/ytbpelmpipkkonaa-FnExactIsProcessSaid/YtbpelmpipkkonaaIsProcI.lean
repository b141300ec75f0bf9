/- IsProcess in the program. -/
import Derived.Test.YtbpelmpipkkonaaProcI
namespace Go.Proofs.Ytbpelmpipkkonaa
open Go.RowKit
set_option linter.unusedVariables false
/-- What IsProcess returns. -/
def procV (ps ws zs : List Int) : Value := .tuple #[.bool (procB ps ws zs), .bool (goodT ps ws)]
theorem procV_form (ps ws zs : List Int) : ∃ rx ok, procV ps ws zs = .tuple #[.bool rx, .bool ok] := ⟨_, _, rfl⟩
set_option maxHeartbeats 2000000 in
theorem isProcI (ps ws zs : List Int) (v u : Value) (w : World) (hn : zs.length ≤ 1048576) (h : TreeV w w.heap.size v ps ws) (hu : IntsV w w.heap.size u zs) :
    Calls Try.prog 19 #[v, u] w (Gives (procV ps ws zs) w) := by
  have G := Lib.hid (fun w' (hb : Below w.heap.size w w') => isTreeI ps ws v w' (h.boxed hb))
  have PI := Lib.hid (fun w' (hb : Below w.heap.size w w') => procI ps ws zs v u w' hn (h.boxed hb) ((hu.below hb).more hb.size))
  obtain ⟨p1, c1, p2, c2, rfl⟩ := h.shape
  obtain ⟨q, cq, rfl, _⟩ := hu
  clear h
  have D : Hid (procV ps ws zs = .tuple #[.bool (procB ps ws zs), .bool (goodT ps ws)]) := Lib.hid rfl
  generalize procB ps ws zs = bb at *
  generalize goodT ps ws = bg at *
  have B1 := (Below.refl w.heap.size w).alloc (Nat.le_refl _) (.cells #[.slice p1 ps.length c1, .slice p2 ws.length c2] 28)
  have T1 := Lib.hid (show TBox (w.alloc (.cells #[.slice p1 ps.length c1, .slice p2 ws.length c2] 28)) w.heap.size (.slice p1 ps.length c1) (.slice p2 ws.length c2) from alloc_heap w _)
  obtain ⟨wa, hwa⟩ : ∃ wa, wa = w.alloc (.cells #[.slice p1 ps.length c1, .slice p2 ws.length c2] 28) := ⟨_, rfl⟩
  rw [← hwa] at B1 T1
  have HBA := Lib.hid B1
  have KC : Hid (∀ w', Hid (Below wa.heap.size wa w') → w'.cell? ⟨w.heap.size, 0, none⟩ = some (.slice p1 ps.length c1) ∧ w'.cell? ⟨w.heap.size, 1, none⟩ = some (.slice p2 ws.length c2)) := Lib.hid (fun w' hb => (T1.out.below hb.out T1.out.lt).cells)
  have CP : Hid (∀ w', Hid (Below wa.heap.size wa w') → Calls Try.prog 53 #[.agg #[.slice p1 ps.length c1, .slice p2 ws.length c2], .slice q zs.length cq] w' (Gives (.bool bb) w')) := Lib.hid (fun w' hb => PI.out w' (HBA.out.trans (hb.out.mono HBA.out.size)))
  have CT : Hid (∀ w', Hid (Below wa.heap.size wa w') → Calls Try.prog 54 #[.agg #[.slice p1 ps.length c1, .slice p2 ws.length c2]] w' (Gives (.bool bg) w')) := Lib.hid (fun w' hb => G.out w' (HBA.out.trans (hb.out.mono HBA.out.size)))
  have HD : Hid (Below wa.heap.size wa wa.drew) := Lib.hid (below_drew (Below.refl _ _))
  obtain ⟨x0, x1⟩ := T1.out.cells
  clear B1 PI G
  go_enter Try.func19, Try.ntmps19
  go_wp2_with fail
  rw [← hwa]
  clear hwa
  go_region_held3 (fun w' => w'.cell? ⟨w.heap.size, 0, none⟩ = some (.slice p1 ps.length c1) ∧ w'.cell? ⟨w.heap.size, 1, none⟩ = some (.slice p2 ws.length c2))
    (first | exact KC.out _ HD | exact KC.out _ (by assumption) | go_keep)
    (first
      | (go_at_call 53; (with_reducible refine (CP.out _ (by assumption)).mono ?_); rintro e w8 ⟨rfl, b8⟩; (have HE8 := hb_next (wa := wa) (by assumption) b8); clear b8)
      | (go_at_call 54; (with_reducible refine (CT.out _ (by assumption)).mono ?_); rintro e w8 ⟨rfl, b8⟩; (have HE8 := hb_next (wa := wa) (by assumption) b8); clear b8))
  all_goals
    go_wp2_with fail
    go_ret2
    rw [D.out]
    exact ⟨rfl, hb_full (wa := wa) HBA (by assumption)⟩
end Go.Proofs.Ytbpelmpipkkonaa
