/- What the laws' helpers do with arms: equality, marks, copies. -/
import Derived.Test.YtmidlabgmmejbaaArmH
namespace Go.Proofs.Ytmidlabgmmejbaa
open Go.RowKit Go.WideShapes Go.ChangeShapes Go.Joins
set_option linter.unusedVariables false
theorem eqA (ps ws cs : List Int) (v u : Value) (B C : Nat) (w : World) (hp : ArmV w B v ps ws cs) (hq : ArmV w C u ps ws cs) (hB : B ≤ w.heap.size) (hC : C ≤ w.heap.size) :
    Calls Try.prog 16 #[v, u] w fun e w' => e = .returned (.bool true) ∧ Below w.heap.size w w' := by
  obtain ⟨v1, v2, v3, rfl, h1, h2, h3⟩ := hp
  obtain ⟨u1, u2, u3, rfl, g1, g2, g3⟩ := hq
  have S1 := Lib.hid (fun w' (hb : Below w.heap.size w w') => eqT ps ws (.agg #[v1, v2]) (.agg #[u1, u2]) B C w' (TreeV.below ⟨_, _, rfl, h1, h2⟩ (hb.mono hB)) (TreeV.below ⟨_, _, rfl, g1, g2⟩ (hb.mono hC)) (by have := hb.size; omega) (by have := hb.size; omega))
  have S2 := Lib.hid (fun w' (hb : Below w.heap.size w w') => eqI cs v3 u3 B C w' (h3.below (hb.mono hB)) (g3.below (hb.mono hC)))
  clear h1 h2 h3 g1 g2 g3
  obtain ⟨wa, hwa⟩ : ∃ wa, wa = (w.alloc (.cells #[v1, v2, v3] 31)).alloc (.cells #[u1, u2, u3] 31) := ⟨_, rfl⟩
  obtain ⟨k1, k2⟩ := alloc_two w (.cells #[v1, v2, v3] 31) (.cells #[u1, u2, u3] 31)
  have B3 : Below w.heap.size w wa := by rw [hwa]; exact ((Below.refl w.heap.size w).alloc (Nat.le_refl _) _).alloc (by simp) _
  have T1 := Lib.hid (show AKBox wa w.heap.size v1 v2 v3 by rw [hwa]; exact k1)
  have T2 := Lib.hid (show AKBox wa (w.heap.size + 1) u1 u2 u3 by rw [hwa]; exact k2)
  clear k1 k2
  obtain ⟨x0, x1, x2⟩ := T1.out.cells
  obtain ⟨y0, y1, y2⟩ := T2.out.cells
  go_enter Try.func16, Try.ntmps16
  go_wp2_with fail
  rw [← hwa]
  clear hwa
  refine (S1.out _ B3).mono ?_
  rintro e w1 ⟨rfl, b1⟩
  have HB := Lib.hid (B3.trans (b1.mono B3.size))
  obtain ⟨z0, z1, z2⟩ := (T1.out.below b1 T1.out.lt).cells
  obtain ⟨t0, t1, t2⟩ := (T2.out.below b1 T2.out.lt).cells
  clear b1 x0 x1 x2 y0 y1 y2
  go_wp2_with fail
  refine (S2.out _ HB.out).mono ?_
  rintro e w2 ⟨rfl, n, rfl⟩
  have HB2 := Lib.hid (below_drewN HB.out n)
  go_wp2_with fail
  go_ret
  exact ⟨rfl, HB2.out⟩
set_option maxHeartbeats 1000000 in
theorem markA (ps ws cs : List Int) (v : Value) (lo hi k : Nat) (w : World) (hp : ps.length ≤ 1048576) (hw : ws.length ≤ 1048576) (hc : cs.length ≤ 1048576) (hk : k ≤ 900000000) (h : OwnArm w lo hi v ps ws cs) :
    Calls Try.prog 22 #[v, .int .i64 k] w fun e w' => e = .returned (.int .i64 ((k + ps.length + ws.length + cs.length : Nat) : Int)) ∧ OwnArm w' lo hi v (marksI k ps.length) (marksI (k + ps.length) ws.length) (marksI (k + ps.length + ws.length) cs.length) ∧ Alt lo hi w w' := by
  obtain ⟨p1, c1, p2, c2, p3, c3, rfl⟩ := h.shape
  have hroom : hi ≤ w.heap.size := by obtain ⟨_, _, _, _, _, _, _, _, _, _, _, c⟩ := h; exact c.room
  obtain ⟨m2, hm1, hm2, ht, hz⟩ := h.parts
  have H1 := Lib.hid ht
  have H2 := Lib.hid hz
  clear h ht hz
  have A3 : Alt lo hi w (w.alloc (.cells #[.slice p1 ps.length c1, .slice p2 ws.length c2, .slice p3 cs.length c3] 31)) := Alt.alloc _ _ _ _
  have B3 : Below hi w (w.alloc (.cells #[.slice p1 ps.length c1, .slice p2 ws.length c2, .slice p3 cs.length c3] 31)) := (Below.refl hi w).alloc hroom _
  have T3 : AKBox (w.alloc (.cells #[.slice p1 ps.length c1, .slice p2 ws.length c2, .slice p3 cs.length c3] 31)) w.heap.size (.slice p1 ps.length c1) (.slice p2 ws.length c2) (.slice p3 cs.length c3) := alloc_heap _ _
  obtain ⟨wa, hwa⟩ : ∃ wa, wa = w.alloc (.cells #[.slice p1 ps.length c1, .slice p2 ws.length c2, .slice p3 cs.length c3] 31) := ⟨_, rfl⟩
  rw [← hwa] at A3 B3 T3
  have sA : w.heap.size < wa.heap.size := by rw [hwa]; simp
  obtain ⟨x0, x1, x2⟩ := T3.cells
  go_enter Try.func22, Try.ntmps22
  go_wp2_with fail
  rw [← hwa]
  clear hwa
  refine (markT ps ws _ lo m2 k _ hp hw (by omega) (H1.out.below (B3.mono hm2))).mono ?_
  rintro e w1 ⟨rfl, o1, a1⟩
  obtain ⟨y0, y1, y2⟩ := (show AKBox w1 w.heap.size _ _ _ from (a1.block w.heap.size (by omega) (.inr (by omega))).trans T3).cells
  have O1 := Lib.hid o1
  have A1 := Lib.hid (A3.trans (a1.wide (Nat.le_refl _) hm2))
  have O2 := Lib.hid ((H2.out.below B3).alt a1 (.inr (Nat.le_refl _)))
  clear o1 a1 x0 x1 x2 T3 A3 B3
  go_wp2_with fail
  refine (markI cs _ m2 hi (k + ps.length + ws.length) _ hc (by omega) O2.out).mono ?_
  rintro e w2 ⟨rfl, o2, a2⟩
  have hl1 : (marksI k ps.length).length = ps.length := by simp [marksI]
  have hl2 : (marksI (k + ps.length) ws.length).length = ws.length := by simp [marksI]
  have hl3 : (marksI (k + ps.length + ws.length) cs.length).length = cs.length := by simp [marksI]
  have FIN := Lib.hid (And.intro (OwnArm.of (w2 := w2) (O1.out.alt a2 (.inl (Nat.le_refl _))) o2 hm2) (A1.out.trans (a2.wide hm1 (Nat.le_refl _))))
  clear o2 a2
  go_wp2_with fail
  go_ret
  exact ⟨rfl, FIN.out.1, FIN.out.2⟩
theorem AKBox.st0 {w : World} {B : Nat} {v1 v2 v3 : Value} (h : AKBox w B v1 v2 v3) (x : Value) : AKBox (w.setCell ⟨B, 0, none⟩ x) B x v2 v3 := row_set (L := [v1, v2, v3]) (j := 0) h
theorem AKBox.st1 {w : World} {B : Nat} {v1 v2 v3 : Value} (h : AKBox w B v1 v2 v3) (x : Value) : AKBox (w.setCell ⟨B, 1, none⟩ x) B v1 x v3 := row_set (L := [v1, v2, v3]) (j := 1) h
theorem AKBox.st2 {w : World} {B : Nat} {v1 v2 v3 : Value} (h : AKBox w B v1 v2 v3) (x : Value) : AKBox (w.setCell ⟨B, 2, none⟩ x) B v1 v2 x := row_set (L := [v1, v2, v3]) (j := 2) h
theorem AKBox.cf {w : World} {B : Nat} {v1 v2 v3 : Value} (h : AKBox w B v1 v2 v3) : (w.cell? ⟨B, 0, none⟩ = some v1 ∧ w.frozen? ⟨B, 0, none⟩ = false) ∧ (w.cell? ⟨B, 1, none⟩ = some v2 ∧ w.frozen? ⟨B, 1, none⟩ = false) ∧ (w.cell? ⟨B, 2, none⟩ = some v3 ∧ w.frozen? ⟨B, 2, none⟩ = false) :=
  ⟨cell_of_heap (o := 0) h rfl, cell_of_heap (o := 1) h rfl, cell_of_heap (o := 2) h rfl⟩
set_option maxHeartbeats 2000000 in
theorem toA (ps ws cs : List Int) (v : Value) (w : World) (hp : ps.length ≤ 1048576) (hw : ws.length ≤ 1048576) (hc : cs.length ≤ 1048576) (h : ArmV w w.heap.size v ps ws cs) :
    Calls Try.prog 14 #[v] w (NewArm ps ws cs w) := by
  have S1 := Lib.hid (fun w' (v1 v2 v3 : Value) (hv : v = .agg #[v1, v2, v3]) (hb : Below w.heap.size w w') => toT ps ws (.agg #[v1, v2]) w' hp hw ((show TreeV w w.heap.size (.agg #[v1, v2]) ps ws by (have h2 := h; rw [hv] at h2; exact h2.tree.1)).boxed hb))
  have S2 := Lib.hid (fun w' (v1 v2 v3 : Value) (hv : v = .agg #[v1, v2, v3]) (hb : Below w.heap.size w w') => toI cs v3 w' hc (((show IntsV w w.heap.size v3 cs by (have h2 := h; rw [hv] at h2; exact h2.tree.2)).below hb).more hb.size))
  obtain ⟨p1, c1, p2, c2, p3, c3, rfl⟩ := h.shape
  clear h
  obtain ⟨wa, hwa⟩ : ∃ wa, wa = ((w.alloc (.cells #[.slice p1 ps.length c1, .slice p2 ws.length c2, .slice p3 cs.length c3] 26)).alloc (.cells #[.slice none 0 0, .slice none 0 0, .slice none 0 0] 31)).alloc (.cells #[.slice none 0 0, .slice none 0 0, .slice none 0 0] 31) := ⟨_, rfl⟩
  have B3 : Below w.heap.size w wa := by rw [hwa]; exact (((Below.refl w.heap.size w).alloc (Nat.le_refl _) _).alloc (by simp) _).alloc (by simp; omega) _
  have hsz : wa.heap.size = w.heap.size + 1 + 1 + 1 := by rw [hwa]; simp
  obtain ⟨k0, k1, k2⟩ := heap_three w (.cells #[.slice p1 ps.length c1, .slice p2 ws.length c2, .slice p3 cs.length c3] 26) (.cells #[.slice none 0 0, .slice none 0 0, .slice none 0 0] 31) (.cells #[.slice none 0 0, .slice none 0 0, .slice none 0 0] 31)
  rw [← hwa] at k0 k1 k2
  have T1 := Lib.hid (show AKBox wa (w.heap.size + 1) (.slice none 0 0) (.slice none 0 0) (.slice none 0 0) from k1)
  have T2 := Lib.hid (show AKBox wa (w.heap.size + 1 + 1) (.slice none 0 0) (.slice none 0 0) (.slice none 0 0) from k2)
  have K0 := Lib.hid (fun w1 (hb : Below wa.heap.size wa w1) => (And.intro (cell_of_heap (o := 0) ((hb.block w.heap.size (by omega)).trans k0) rfl).1 (And.intro (cell_of_heap (o := 1) ((hb.block w.heap.size (by omega)).trans k0) rfl).1 (cell_of_heap (o := 2) ((hb.block w.heap.size (by omega)).trans k0) rfl).1)))
  clear k0 k1 k2
  obtain ⟨x0, x1, x2⟩ := K0.out _ (Below.refl _ _)
  go_enter Try.func14, Try.ntmps14
  go_wp2_with fail
  rw [← hwa]
  clear hwa
  refine (S1.out _ _ _ _ rfl B3).mono ?_
  rintro e w1 ⟨u1, rfl, o1, b1⟩
  obtain ⟨g1, d1, g2, d2, rfl⟩ := o1.shape
  have hz1 := b1.size
  have O1 := Lib.hid o1
  have A1 := Lib.hid b1
  have HT1 := Lib.hid (T1.out.below b1 T1.out.lt)
  have HT2 := Lib.hid (T2.out.below b1 T2.out.lt)
  have HB1 := Lib.hid (B3.trans (b1.mono B3.size))
  obtain ⟨y0, y1, y2⟩ := K0.out _ b1
  obtain ⟨⟨z0, f0⟩, ⟨z1, f1⟩, z2, f2⟩ := HT2.out.cf
  clear o1 b1 x0 x1 x2 T1 T2
  go_wp2_with fail
  obtain ⟨wb, hwb⟩ : ∃ wb, wb = (w1.setCell ⟨w.heap.size + 1 + 1, 0, none⟩ (.slice g1 ps.length d1)).setCell ⟨w.heap.size + 1 + 1, 1, none⟩ (.slice g2 ws.length d2) := ⟨_, rfl⟩
  have hzb : wb.heap.size = w1.heap.size := by rw [hwb]; simp [World.setCell]
  have AB : Alt (w.heap.size + 1 + 1) (w.heap.size + 1 + 1 + 1) w1 wb := by rw [hwb]; exact (Alt.setC w1 (w.heap.size + 1 + 1) 0 _).trans (Alt.setC _ (w.heap.size + 1 + 1) 1 _)
  have HB2 := Lib.hid (HB1.out.trans ((AB.below (by omega)).mono (by omega)))
  have O2 := Lib.hid (O1.out.alt AB (.inr (by omega)))
  have HU2 : Hid (AKBox wb (w.heap.size + 1 + 1) (.slice g1 ps.length d1) (.slice g2 ws.length d2) (.slice none 0 0)) := Lib.hid (by rw [hwb]; exact (HT2.out.st0 _).st1 _)
  have HU1 : Hid (AKBox wb (w.heap.size + 1) (.slice none 0 0) (.slice none 0 0) (.slice none 0 0)) := Lib.hid (by rw [hwb]; exact (HT1.out.set (by omega)).set (by omega))
  clear z0 f0 z1 f1 z2 f2 HT1 HT2 O1 AB HB1
  try rw [← hwb]
  clear hwb
  refine (S2.out _ _ _ _ rfl HB2.out).mono ?_
  rintro e w2 ⟨u2, rfl, o2, b2⟩
  obtain ⟨g3, d3, rfl, _⟩ := o2.intsV
  have hz2 := b2.size
  have HV1 := Lib.hid (HU1.out.below b2 HU1.out.lt)
  have HV2 := Lib.hid (HU2.out.below b2 HU2.out.lt)
  have HB3 := Lib.hid (HB2.out.trans (b2.mono HB2.out.size))
  have O3 := Lib.hid (O2.out.below (b2.mono (by omega)))
  have O4 := Lib.hid o2
  obtain ⟨⟨z0, f0⟩, ⟨z1, f1⟩, z2, f2⟩ := HV2.out.cf
  obtain ⟨⟨t0, e0⟩, ⟨t1, e1⟩, t2, e2⟩ := HV1.out.cf
  clear o2 b2 y0 y1 y2 HU1 HU2 O2
  go_wp2_with fail
  have FIN : Hid (∀ wf, Alt (w.heap.size + 1) (w.heap.size + 1 + 1 + 1) w2 wf → wf.heap.size = w2.heap.size → NewArm ps ws cs w (.returned (.agg #[.slice g1 ps.length d1, .slice g2 ws.length d2, .slice g3 cs.length d3])) wf) := Lib.hid (fun wf ha hs =>
    ⟨_, rfl, OwnArm.of (w2 := wf) (m2 := w1.heap.size) (by
      have h3 := O3.out.alt ha (.inr (by omega))
      obtain ⟨a1, a2, m, ea, h1, h2, a, b⟩ := h3
      exact ⟨a1, a2, m, ea, by omega, h2, a.low (by omega), b⟩) (by
      have h4 := O4.out.alt ha (.inr (by omega))
      rw [hs]; exact h4.low (by omega)) (by omega), HB3.out.trans ((ha.below (by omega)).mono (by omega))⟩)
  clear O3 O4 HB2 HB3 HV1 HV2
  refine bodyPost_ret (v := .agg #[.slice g1 ps.length d1, .slice g2 ws.length d2, .slice g3 cs.length d3]) (by simp [results, Try.results14, go_sem, t0, t1, t2]) rfl (FIN.out _ (((Alt.setC w2 (w.heap.size + 1 + 1) 2 _).wide (by omega) (by omega)).trans (((Alt.setC _ (w.heap.size + 1) 0 _).wide (by omega) (by omega)).trans (((Alt.setC _ (w.heap.size + 1) 1 _).wide (by omega) (by omega)).trans ((Alt.setC _ (w.heap.size + 1) 2 _).wide (by omega) (by omega))))) (by simp [World.setCell]))
section
variable {H : Type} {enc : TypeId × Value → H} {W : World}
set_option maxRecDepth 100000 in
theorem armCells : Try.prog.cellsOf 26 = 3 := by kernel_rfl
set_option maxRecDepth 100000 in
theorem armV_arg {base : Nat} {v : Value} {d : DataW H} {p : List MemPlace} (hv : Value.okWide Try.prog W .any base 26 v) (h : DataW.Trod enc Try.prog W 0 (fun _ => true) true 26 v d p) : ∃ ps ws cs, ArmV W W.heap.size v ps ws cs := by
  obtain ⟨cl, rfl, hsz⟩ := okWide_struct Try.underlying26 hv
  obtain ⟨c0, c1, c2, rfl⟩ := array3 (hsz.trans armCells)
  obtain ⟨fuel, hf⟩ := h
  obtain ⟨y0, y1, n, _, _, h0, h1⟩ := trod_struct2 Try.underlying26 hf
  have h0' : DataW.trod enc Try.prog W 0 (fun _ => true) true n 24 [c0, c1] = some y0 := by
    have := h0
    rw [treeCells] at this
    exact this
  have h1' : DataW.trod enc Try.prog W 0 (fun _ => true) true n 22 [c2] = some y1 := by
    have e : Try.prog.cellsOf 22 = 1 := by kernel_rfl
    have := h1
    rw [e] at this
    exact this
  obtain ⟨cs, hc⟩ := intsV_open h1'
  obtain ⟨z0, z1, m, _, _, k0, k1⟩ := trod_struct2 Try.underlying24 h0'
  have e : Try.prog.cellsOf 22 = 1 := by kernel_rfl
  rw [e] at k0 k1
  obtain ⟨ps, hp⟩ := intsV_open (v := c0) k0
  obtain ⟨ws, hw⟩ := intsV_open (v := c1) k1
  exact ⟨ps, ws, cs, c0, c1, c2, rfl, hp, hw, hc⟩
end
end Go.Proofs.Ytmidlabgmmejbaa
