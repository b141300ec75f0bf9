/- Boxes: what the laws' helpers do with them. -/
import Derived.Test.YtnpiciabpgkiiaaLawX
import Derived.Test.YtnpiciabpgkiiaaIsTree
import Derived.Test.YtnpiciabpgkiiaaL7V
namespace Go.Proofs.Ytnpiciabpgkiiaa
open Go.RowKit Go.WideShapes Go.ChangeShapes Go.Joins
set_option linter.unusedVariables false
/-- A value that is a box with these weights and this fee. -/
def BoxV (w : World) (B : Nat) (v : Value) (zs : List Int) (f : Int) : Prop := ∃ v1, v = .agg #[v1, .int .i64 f] ∧ InI64 f ∧ IntsV w B v1 zs
theorem BoxV.below {w w' : World} {B : Nat} {v : Value} {zs : List Int} {f : Int} (h : BoxV w B v zs f) (hb : Below B w w') : BoxV w' B v zs f := by
  obtain ⟨v1, e, i, a⟩ := h; exact ⟨v1, e, i, a.below hb⟩
theorem BoxV.more {w : World} {B B' : Nat} {v : Value} {zs : List Int} {f : Int} (h : BoxV w B v zs f) (hB : B ≤ B') : BoxV w B' v zs f := by
  obtain ⟨v1, e, i, a⟩ := h; exact ⟨v1, e, i, a.more hB⟩
theorem BoxV.boxed {w w' : World} {v : Value} {zs : List Int} {f : Int} (h : BoxV w w.heap.size v zs f) (hb : Below w.heap.size w w') : BoxV w' w'.heap.size v zs f := (h.below hb).more hb.size
theorem BoxV.shape {w : World} {B : Nat} {v : Value} {zs : List Int} {f : Int} (h : BoxV w B v zs f) : ∃ p1 c1, v = .agg #[.slice p1 zs.length c1, .int .i64 f] := by
  obtain ⟨v1, e, i, ⟨p1, c1, e1, _⟩⟩ := h
  exact ⟨p1, c1, by rw [e, e1]⟩
theorem BoxV.ints {w : World} {B : Nat} {v1 : Value} {zs : List Int} {f : Int} (h : BoxV w B (.agg #[v1, .int .i64 f]) zs f) : IntsV w B v1 zs := by
  obtain ⟨u1, e, i, a⟩ := h
  injection e with e
  injection e with e
  injection e with e1 e
  subst e1
  exact a
theorem BoxV.in64 {w : World} {B : Nat} {v : Value} {zs : List Int} {f : Int} (h : BoxV w B v zs f) : InI64 f := by
  obtain ⟨_, _, i, _⟩ := h; exact i
/-- A box in memory of a call's own. -/
def OwnBox (w : World) (lo hi : Nat) (v : Value) (zs : List Int) (f : Int) : Prop := ∃ v1, v = .agg #[v1, .int .i64 f] ∧ InI64 f ∧ OwnV w lo hi v1 zs
theorem OwnBox.boxV {w : World} {lo hi : Nat} {v : Value} {zs : List Int} {f : Int} (h : OwnBox w lo hi v zs f) : BoxV w hi v zs f := by
  obtain ⟨v1, e, i, a⟩ := h; exact ⟨v1, e, i, a.intsV⟩
theorem OwnBox.below {w w' : World} {lo hi : Nat} {v : Value} {zs : List Int} {f : Int} (h : OwnBox w lo hi v zs f) (hb : Below hi w w') : OwnBox w' lo hi v zs f := by
  obtain ⟨v1, e, i, a⟩ := h; exact ⟨v1, e, i, a.below hb⟩
theorem OwnBox.alt {w w' : World} {lo hi lo' hi' : Nat} {v : Value} {zs : List Int} {f : Int} (h : OwnBox w lo hi v zs f) (ha : Alt lo' hi' w w') (hd : hi ≤ lo' ∨ hi' ≤ lo) : OwnBox w' lo hi v zs f := by
  obtain ⟨v1, e, i, a⟩ := h; exact ⟨v1, e, i, a.alt ha hd⟩
theorem OwnBox.shape {w : World} {lo hi : Nat} {v : Value} {zs : List Int} {f : Int} (h : OwnBox w lo hi v zs f) : ∃ p1 c1, v = .agg #[.slice p1 zs.length c1, .int .i64 f] := h.boxV.shape
theorem OwnBox.boxAt {w : World} {lo hi : Nat} {v : Value} {zs : List Int} {f : Int} (h : OwnBox w lo hi v zs f) (hh : hi ≤ w.heap.size) : BoxV w w.heap.size v zs f := h.boxV.more hh
/-- A copy of a box in new memory. -/
def NewBox (zs : List Int) (f : Int) (w : World) (e : Ending) (w' : World) : Prop :=
  ∃ v, e = .returned v ∧ OwnBox w' w.heap.size w'.heap.size v zs f ∧ Below w.heap.size w w'
def leftB (l : Int) (zs : List Int) (f : Int) : Int := if l < zs.length then -1 else l - zs.length
theorem leftB_ok {zs : List Int} {f : Int} (h : ¬ leftB 1048576 zs f < 0) : zs.length ≤ 1048576 := by
  unfold leftB at h
  split at h <;> omega
/-- The law's own box of the box that came in. -/
def BBox (W : World) (v1 v2 : Value) : World := W.alloc (.cells #[v1, v2] 45)
theorem bbox_below (W : World) (v1 v2 : Value) : Below W.heap.size W (BBox W v1 v2) := (Below.refl _ _).alloc (Nat.le_refl _) _
theorem bbox_size (W : World) (v1 v2 : Value) : (BBox W v1 v2).heap.size = W.heap.size + 1 := by simp [BBox]
theorem bbox_cells {W w1 : World} {v1 v2 : Value} (hb : Below (BBox W v1 v2).heap.size (BBox W v1 v2) w1) : w1.cell? ⟨W.heap.size, 0, none⟩ = some v1 ∧ w1.cell? ⟨W.heap.size, 1, none⟩ = some v2 := by
  have k := (hb.block W.heap.size (by rw [bbox_size]; omega)).trans (alloc_heap W (.cells #[v1, v2] 45))
  exact ⟨(cell_of_heap (o := 0) k rfl).1, (cell_of_heap (o := 1) k rfl).1⟩
theorem ibbox_cells {w w1 : World} {v1 v2 : Value} (hb : Below (w.alloc (.cells #[v1, v2] 48)).heap.size (w.alloc (.cells #[v1, v2] 48)) w1) : w1.cell? ⟨w.heap.size, 0, none⟩ = some v1 ∧ w1.cell? ⟨w.heap.size, 1, none⟩ = some v2 := by
  have k := (hb.block w.heap.size (by simp)).trans (alloc_heap w (.cells #[v1, v2] 48))
  exact ⟨(cell_of_heap (o := 0) k rfl).1, (cell_of_heap (o := 1) k rfl).1⟩
/-- A box while a call runs. -/
def CBox (w : World) (B : Nat) (v1 v2 : Value) : Prop := w.heap[B]? = some (.cells #[v1, v2] 48 (0, 0))
theorem CBox.lt {w : World} {B : Nat} {v1 v2 : Value} (h : CBox w B v1 v2) : B < w.heap.size := by
  unfold CBox at h; exact (Array.getElem?_eq_some_iff.1 h).1
theorem CBox.cells {w : World} {B : Nat} {v1 v2 : Value} (h : CBox w B v1 v2) : w.cell? ⟨B, 0, none⟩ = some v1 ∧ w.cell? ⟨B, 1, none⟩ = some v2 :=
  ⟨(cell_of_heap (o := 0) h rfl).1, (cell_of_heap (o := 1) h rfl).1⟩
theorem CBox.cf {w : World} {B : Nat} {v1 v2 : Value} (h : CBox w B v1 v2) : (w.cell? ⟨B, 0, none⟩ = some v1 ∧ w.frozen? ⟨B, 0, none⟩ = false) ∧ (w.cell? ⟨B, 1, none⟩ = some v2 ∧ w.frozen? ⟨B, 1, none⟩ = false) :=
  ⟨cell_of_heap (o := 0) h rfl, cell_of_heap (o := 1) h rfl⟩
theorem CBox.below {w w1 : World} {B C : Nat} {v1 v2 : Value} (h : CBox w B v1 v2) (hb : Below C w w1) (hB : B < C) : CBox w1 B v1 v2 := (hb.block B hB).trans h
theorem CBox.new (w : World) (v1 v2 : Value) : CBox (w.alloc (.cells #[v1, v2] 48)) w.heap.size v1 v2 := alloc_heap w _
theorem CBox.st0 {w : World} {B : Nat} {v1 v2 : Value} (h : CBox w B v1 v2) (x : Value) : CBox (w.setCell ⟨B, 0, none⟩ x) B x v2 := row_set (L := [v1, v2]) (j := 0) h
theorem CBox.st1 {w : World} {B : Nat} {v1 v2 : Value} (h : CBox w B v1 v2) (x : Value) : CBox (w.setCell ⟨B, 1, none⟩ x) B v1 x := row_set (L := [v1, v2]) (j := 1) h
theorem CBox.set {w : World} {B g o : Nat} {v1 v2 x : Value} (h : CBox w B v1 v2) (hg : B ≠ g) : CBox (w.setCell ⟨g, o, none⟩ x) B v1 v2 := (heap_setCell_other w _ _ _ hg).trans h
theorem CBox.alloc {w : World} {B : Nat} {v1 v2 : Value} (h : CBox w B v1 v2) (o : Obj) : CBox (w.alloc o) B v1 v2 := h.below ((Below.refl w.heap.size w).alloc (Nat.le_refl _) o) h.lt
theorem szB (zs : List Int) (f : Int) (v : Value) (B : Nat) (left : Int) (w : World) (hl : -1 ≤ left) (hl2 : left ≤ 1048576) (hB : B ≤ w.heap.size) (h : BoxV w B v zs f) :
    Calls Try.prog 33 #[v, .int .i64 left] w fun e w' => e = .returned (.int .i64 (leftB left zs f)) ∧ Below w.heap.size w w' := by
  obtain ⟨v1, rfl, hf, h1⟩ := h
  have S2 := Lib.hid (fun w' (hb : Below w.heap.size w w') => szI zs v1 B left w' hl hl2 (h1.below (hb.mono hB)))
  have hl3 := h1.len
  have B1 := (Below.refl w.heap.size w).alloc (Nat.le_refl _) (.cells #[v1, .int .i64 f] 45)
  obtain ⟨x0, x1⟩ := bbox_cells (W := w) (v1 := v1) (v2 := .int .i64 f) (Below.refl _ _)
  unfold BBox at x0 x1
  obtain ⟨wa, hwa⟩ : ∃ wa, wa = w.alloc (.cells #[v1, .int .i64 f] 45) := ⟨_, rfl⟩
  rw [← hwa] at B1 x0 x1
  clear h1
  by_cases c2 : left < zs.length
  · have hr := Lib.hid (show leftB left zs f = -1 from if_pos c2)
    simp only [if_pos c2] at S2
    go_enter Try.func33, Try.ntmps33
    go_wp2_with fail
    rw [← hwa]
    clear hwa
    refine (S2.out _ B1).mono ?_
    rintro e w1 ⟨rfl, rfl⟩
    go_wp2_with fail
    go_ret
    exact ⟨by rw [hr.out]; rfl, B1⟩
  · have hr := Lib.hid (show leftB left zs f = left - zs.length from if_neg c2)
    simp only [if_neg c2] at S2
    have n2 : ¬ left - (zs.length : Int) < 0 := by omega
    go_enter Try.func33, Try.ntmps33
    go_wp2_with fail
    rw [← hwa]
    clear hwa
    refine (S2.out _ B1).mono ?_
    rintro e w1 ⟨rfl, rfl⟩
    go_wp2_with fail
    go_ret
    exact ⟨by rw [hr.out]; rfl, B1⟩
theorem eqB (zs : List Int) (f : Int) (v u : Value) (B C : Nat) (w : World) (hp : BoxV w B v zs f) (hq : BoxV w C u zs f) (hB : B ≤ w.heap.size) (hC : C ≤ w.heap.size) :
    Calls Try.prog 37 #[v, u] w fun e w' => e = .returned (.bool true) ∧ Below w.heap.size w w' := by
  obtain ⟨v1, rfl, hf, h1⟩ := hp
  obtain ⟨u1, rfl, _, g1⟩ := hq
  have S2 := Lib.hid (fun w' (hb : Below w.heap.size w w') => eqI zs v1 u1 B C w' (h1.below (hb.mono hB)) (g1.below (hb.mono hC)))
  clear h1 g1
  obtain ⟨wa, hwa⟩ : ∃ wa, wa = (w.alloc (.cells #[v1, .int .i64 f] 48)).alloc (.cells #[u1, .int .i64 f] 48) := ⟨_, rfl⟩
  obtain ⟨k1, k2⟩ := alloc_two w (.cells #[v1, .int .i64 f] 48) (.cells #[u1, .int .i64 f] 48)
  have B3 : Below w.heap.size w wa := by rw [hwa]; exact ((Below.refl w.heap.size w).alloc (Nat.le_refl _) _).alloc (by simp) _
  have T1 := Lib.hid (show CBox wa w.heap.size v1 (.int .i64 f) by rw [hwa]; exact k1)
  have T2 := Lib.hid (show CBox wa (w.heap.size + 1) u1 (.int .i64 f) by rw [hwa]; exact k2)
  clear k1 k2
  obtain ⟨x0, x1⟩ := T1.out.cells
  obtain ⟨y0, y1⟩ := T2.out.cells
  go_enter Try.func37, Try.ntmps37
  go_wp2_with fail
  rw [← hwa]
  clear hwa
  refine (S2.out _ B3).mono ?_
  rintro e w2 ⟨rfl, n, rfl⟩
  have HB2 := Lib.hid (below_drewN B3 n)
  go_wp2_with fail
  go_ret
  exact ⟨rfl, HB2.out⟩
set_option maxHeartbeats 2000000 in
theorem toB (zs : List Int) (f : Int) (v : Value) (w : World) (hn : zs.length ≤ 1048576) (h : BoxV w w.heap.size v zs f) :
    Calls Try.prog 35 #[v] w (NewBox zs f w) := by
  have S2 := Lib.hid (fun w' (v1 : Value) (hv : v = .agg #[v1, .int .i64 f]) (hb : Below w.heap.size w w') => toI zs v1 w' hn (((show IntsV w w.heap.size v1 zs by (have h2 := h; rw [hv] at h2; exact h2.ints)).below hb).more hb.size))
  have IF := Lib.hid h.in64
  obtain ⟨p1, c1, rfl⟩ := h.shape
  clear h
  obtain ⟨wa, hwa⟩ : ∃ wa, wa = ((w.alloc (.cells #[.slice p1 zs.length c1, .int .i64 f] 45)).alloc (.cells #[.slice none 0 0, .int .i64 0] 48)).alloc (.cells #[.slice none 0 0, .int .i64 0] 48) := ⟨_, rfl⟩
  have B3 : Below w.heap.size w wa := by rw [hwa]; exact (((Below.refl w.heap.size w).alloc (Nat.le_refl _) _).alloc (by simp) _).alloc (by simp; omega) _
  have hsz : wa.heap.size = w.heap.size + 1 + 1 + 1 := by rw [hwa]; simp
  obtain ⟨k0, k1, k2⟩ := heap_three w (.cells #[.slice p1 zs.length c1, .int .i64 f] 45) (.cells #[.slice none 0 0, .int .i64 0] 48) (.cells #[.slice none 0 0, .int .i64 0] 48)
  rw [← hwa] at k0 k1 k2
  have T1 := Lib.hid (show CBox wa (w.heap.size + 1) (.slice none 0 0) (.int .i64 0) from k1)
  have T2 := Lib.hid (show CBox wa (w.heap.size + 1 + 1) (.slice none 0 0) (.int .i64 0) from k2)
  have K0 := Lib.hid (fun w1 (hb : Below wa.heap.size wa w1) => (And.intro (cell_of_heap (o := 0) ((hb.block w.heap.size (by omega)).trans k0) rfl).1 (cell_of_heap (o := 1) ((hb.block w.heap.size (by omega)).trans k0) rfl).1))
  clear k0 k1 k2
  obtain ⟨x0, x1⟩ := K0.out _ (Below.refl _ _)
  go_enter Try.func35, Try.ntmps35
  go_wp2_with fail
  rw [← hwa]
  clear hwa
  refine (S2.out _ _ rfl B3).mono ?_
  rintro e w1 ⟨u1, rfl, o1, b1⟩
  obtain ⟨g1, d1, rfl, _⟩ := o1.intsV
  have hz1 := b1.size
  have O1 := Lib.hid o1
  have HT1 := Lib.hid (T1.out.below b1 T1.out.lt)
  have HT2 := Lib.hid (T2.out.below b1 T2.out.lt)
  have HB1 := Lib.hid (B3.trans (b1.mono B3.size))
  obtain ⟨y0, y1⟩ := K0.out _ b1
  obtain ⟨⟨z0, f0⟩, z1, f1⟩ := HT2.out.cf
  obtain ⟨⟨t0, e0⟩, t1, e1⟩ := HT1.out.cf
  clear o1 b1 x0 x1 T1 T2
  go_wp2_with fail
  have FIN : Hid (∀ wf, Alt (w.heap.size + 1) (w.heap.size + 1 + 1 + 1) w1 wf → wf.heap.size = w1.heap.size → NewBox zs f w (.returned (.agg #[.slice g1 zs.length d1, .int .i64 f])) wf) := Lib.hid (fun wf ha hs =>
    ⟨_, rfl, ⟨_, rfl, IF.out, by
      have h4 := O1.out.alt ha (.inr (by omega))
      rw [hs]; exact h4.low (by omega)⟩, HB1.out.trans ((ha.below (by omega)).mono (by omega))⟩)
  clear O1 HB1 HT1 HT2
  refine bodyPost_ret (v := .agg #[.slice g1 zs.length d1, .int .i64 f]) (by simp [results, Try.results35, go_sem, t0, t1]) rfl (FIN.out _ (((Alt.setC w1 (w.heap.size + 1 + 1) 0 _).wide (by omega) (by omega)).trans (((Alt.setC _ (w.heap.size + 1 + 1) 1 _).wide (by omega) (by omega)).trans (((Alt.setC _ (w.heap.size + 1) 0 _).wide (by omega) (by omega)).trans ((Alt.setC _ (w.heap.size + 1) 1 _).wide (by omega) (by omega))))) (by simp [World.setCell]))
section
variable {H : Type} {enc : TypeId × Value → H} {W : World}
set_option maxRecDepth 100000 in
theorem boxCells : Try.prog.cellsOf 45 = 2 := by kernel_rfl
set_option maxRecDepth 100000 in
theorem boxV_arg {base : Nat} {v : Value} {d : DataW H} {p : List MemPlace} (hv : Value.okWide Try.prog W .any base 45 v) (h : DataW.Trod enc Try.prog W 0 (fun _ => true) true 45 v d p) : ∃ zs f, BoxV W W.heap.size v zs f := by
  obtain ⟨c0, c1, y0, y1, m, rfl, hx, hx2, hy0, hy1⟩ := open_agg2 Try.underlying45 (by kernel_rfl) boxCells hv h
  obtain ⟨zs, hz⟩ := intsV_open hy0
  obtain ⟨f, hc, _, hw⟩ := DataW.trod_int Try.underlying3 hy1
  simp at hc
  subst hc
  exact ⟨zs, f, c0, rfl, inI64_of_wf hw, hz⟩
end
end Go.Proofs.Ytnpiciabpgkiiaa
