/- Two words of the program. -/
import Derived.Test.YtagoodkaobcjaabWwI
import Derived.BigRegion
import Derived.Laws.IdiomCopy
namespace Go.Proofs.Ytagoodkaobcjaab
open Go.RowKit
set_option linter.unusedVariables false
theorem nine_in {w : World} {g : Nat} (h : ∀ j, j < 9 → (w.cell? ⟨g, j, none⟩).isSome = true) (x0 x1 x2 x3 x4 x5 x6 x7 x8 : Value) :
    (((((((((w.setCell ⟨g, 0, none⟩ x0).setCell ⟨g, 1, none⟩ x1).setCell ⟨g, 2, none⟩ x2).setCell ⟨g, 3, none⟩ x3).setCell ⟨g, 4, none⟩ x4).setCell ⟨g, 5, none⟩ x5).setCell ⟨g, 6, none⟩ x6).setCell ⟨g, 7, none⟩ x7).setCell ⟨g, 8, none⟩ x8).cell? ⟨g, 0, none⟩ = some x0 ∧ (((((((((w.setCell ⟨g, 0, none⟩ x0).setCell ⟨g, 1, none⟩ x1).setCell ⟨g, 2, none⟩ x2).setCell ⟨g, 3, none⟩ x3).setCell ⟨g, 4, none⟩ x4).setCell ⟨g, 5, none⟩ x5).setCell ⟨g, 6, none⟩ x6).setCell ⟨g, 7, none⟩ x7).setCell ⟨g, 8, none⟩ x8).cell? ⟨g, 1, none⟩ = some x1 ∧ (((((((((w.setCell ⟨g, 0, none⟩ x0).setCell ⟨g, 1, none⟩ x1).setCell ⟨g, 2, none⟩ x2).setCell ⟨g, 3, none⟩ x3).setCell ⟨g, 4, none⟩ x4).setCell ⟨g, 5, none⟩ x5).setCell ⟨g, 6, none⟩ x6).setCell ⟨g, 7, none⟩ x7).setCell ⟨g, 8, none⟩ x8).cell? ⟨g, 2, none⟩ = some x2 ∧ (((((((((w.setCell ⟨g, 0, none⟩ x0).setCell ⟨g, 1, none⟩ x1).setCell ⟨g, 2, none⟩ x2).setCell ⟨g, 3, none⟩ x3).setCell ⟨g, 4, none⟩ x4).setCell ⟨g, 5, none⟩ x5).setCell ⟨g, 6, none⟩ x6).setCell ⟨g, 7, none⟩ x7).setCell ⟨g, 8, none⟩ x8).cell? ⟨g, 3, none⟩ = some x3 ∧ (((((((((w.setCell ⟨g, 0, none⟩ x0).setCell ⟨g, 1, none⟩ x1).setCell ⟨g, 2, none⟩ x2).setCell ⟨g, 3, none⟩ x3).setCell ⟨g, 4, none⟩ x4).setCell ⟨g, 5, none⟩ x5).setCell ⟨g, 6, none⟩ x6).setCell ⟨g, 7, none⟩ x7).setCell ⟨g, 8, none⟩ x8).cell? ⟨g, 4, none⟩ = some x4 ∧ (((((((((w.setCell ⟨g, 0, none⟩ x0).setCell ⟨g, 1, none⟩ x1).setCell ⟨g, 2, none⟩ x2).setCell ⟨g, 3, none⟩ x3).setCell ⟨g, 4, none⟩ x4).setCell ⟨g, 5, none⟩ x5).setCell ⟨g, 6, none⟩ x6).setCell ⟨g, 7, none⟩ x7).setCell ⟨g, 8, none⟩ x8).cell? ⟨g, 5, none⟩ = some x5 ∧ (((((((((w.setCell ⟨g, 0, none⟩ x0).setCell ⟨g, 1, none⟩ x1).setCell ⟨g, 2, none⟩ x2).setCell ⟨g, 3, none⟩ x3).setCell ⟨g, 4, none⟩ x4).setCell ⟨g, 5, none⟩ x5).setCell ⟨g, 6, none⟩ x6).setCell ⟨g, 7, none⟩ x7).setCell ⟨g, 8, none⟩ x8).cell? ⟨g, 6, none⟩ = some x6 ∧ (((((((((w.setCell ⟨g, 0, none⟩ x0).setCell ⟨g, 1, none⟩ x1).setCell ⟨g, 2, none⟩ x2).setCell ⟨g, 3, none⟩ x3).setCell ⟨g, 4, none⟩ x4).setCell ⟨g, 5, none⟩ x5).setCell ⟨g, 6, none⟩ x6).setCell ⟨g, 7, none⟩ x7).setCell ⟨g, 8, none⟩ x8).cell? ⟨g, 7, none⟩ = some x7 ∧ (((((((((w.setCell ⟨g, 0, none⟩ x0).setCell ⟨g, 1, none⟩ x1).setCell ⟨g, 2, none⟩ x2).setCell ⟨g, 3, none⟩ x3).setCell ⟨g, 4, none⟩ x4).setCell ⟨g, 5, none⟩ x5).setCell ⟨g, 6, none⟩ x6).setCell ⟨g, 7, none⟩ x7).setCell ⟨g, 8, none⟩ x8).cell? ⟨g, 8, none⟩ = some x8 := by
  have H := World.cell?_setCells_in g [x0, x1, x2, x3, x4, x5, x6, x7, x8] 0 w (fun j hj => by rw [Nat.zero_add]; exact h j hj)
  exact ⟨H 0 (by simp), H 1 (by simp), H 2 (by simp), H 3 (by simp), H 4 (by simp), H 5 (by simp), H 6 (by simp), H 7 (by simp), H 8 (by simp)⟩
theorem nine_out {w : World} {g k j : Nat} (hk : ¬ k = g) {x0 x1 x2 x3 x4 x5 x6 x7 x8 : Value} : (((((((((w.setCell ⟨g, 0, none⟩ x0).setCell ⟨g, 1, none⟩ x1).setCell ⟨g, 2, none⟩ x2).setCell ⟨g, 3, none⟩ x3).setCell ⟨g, 4, none⟩ x4).setCell ⟨g, 5, none⟩ x5).setCell ⟨g, 6, none⟩ x6).setCell ⟨g, 7, none⟩ x7).setCell ⟨g, 8, none⟩ x8).cell? ⟨k, j, none⟩ = w.cell? ⟨k, j, none⟩ :=
  World.cell?_setCells_out g [x0, x1, x2, x3, x4, x5, x6, x7, x8] 0 w ⟨k, j, none⟩ (fun hb => absurd hb hk)
set_option maxRecDepth 100000 in
set_option maxHeartbeats 8000000 in
theorem wordsC (f : Int) (xs bs : List Int) (v u : Value) (w : World) (hn : xs.length ≤ 1048576) (hm : bs.length ≤ 1048576) (h : IntsV w w.heap.size v xs) (k : IntsV w w.heap.size u bs) :
    Calls Try.prog 64 #[.int .i64 f, v, u] w (Gives (.tuple #[shV (wdZ f xs), shV (wdZ f bs), .bool (wdOk f xs && wdOk f bs)]) w) := by
  obtain ⟨wb, hwb, HZ0, HB0, SZ0⟩ := z_setup w
  obtain ⟨wc, hwc, HY0, HC0, SY0⟩ := z_setup wb
  have HZ := Lib.hid (HZ0.below HC0 (by omega))
  have HY := Lib.hid HY0
  have HB := Lib.hid (HB0.trans (HC0.mono HB0.size))
  have WX : Hid (∀ w', Below w.heap.size w w' → Calls Try.prog 67 #[.int .i64 f, v] w' (Gives (.tuple #[shV (wdZ f xs), .bool (wdOk f xs)]) w')) := Lib.hid (fun w' hb => wordC f xs v w' hn ((h.below hb).more hb.size))
  have WY : Hid (∀ w', Below w.heap.size w w' → Calls Try.prog 67 #[.int .i64 f, u] w' (Gives (.tuple #[shV (wdZ f bs), .bool (wdOk f bs)]) w')) := Lib.hid (fun w' hb => wordC f bs u w' hm ((k.below hb).more hb.size))
  obtain ⟨qq, cq, rfl, _⟩ := h
  obtain ⟨qr, cr, rfl, _⟩ := k
  have ltz : w.heap.size < wc.heap.size := by omega
  have lty : wb.heap.size < wc.heap.size := by omega
  obtain ⟨zl, z0, z1, z2, z3, z4, z5, z6, z7, SAL, SA⟩ := sh_form (wdZ f xs)
  obtain ⟨yl, y0, y1, y2, y3, y4, y5, y6, y7, SBL, SB⟩ := sh_form (wdZ f bs)
  unfold shV at WX WY ⊢
  rw [SA] at WX ⊢
  rw [SB] at WY ⊢
  obtain ⟨o1, ho1⟩ : ∃ o, o = wdOk f xs := ⟨_, rfl⟩
  obtain ⟨o2, ho2⟩ : ∃ o, o = wdOk f bs := ⟨_, rfl⟩
  rw [← ho1] at WX ⊢
  rw [← ho2] at WY ⊢
  clear HZ0 HY0 HB0 HC0 SA SAL SB SBL ho1 ho2
  have GZ := Lib.hid SZ0
  have GY := Lib.hid SY0
  clear SZ0 SY0 ltz lty
  go_enter Try.func64, Try.ntmps64
  go_wp2_with fail
  rw [← hwb]
  rw [← hwc]
  rw [show w.heap.size + 1 = wb.heap.size from GZ.out.symm]
  clear hwb hwc
  have SZ0 := GZ.out
  have SY0 := GY.out
  have ltz : w.heap.size < wc.heap.size := by omega
  have lty : wb.heap.size < wc.heap.size := by omega
  refine (WX.out _ HB.out).mono ?_
  rintro e w1 ⟨rfl, b1⟩
  have s1 := b1.size
  have HZ1 := Lib.hid (HZ.out.below b1 ltz)
  have HY1 := Lib.hid (HY.out.below b1 lty)
  have HB1 := Lib.hid (HB.out.trans (b1.mono HB.out.size))
  have l1 := Lib.hid (show w.heap.size < wb.heap.size ∧ wb.heap.size < w1.heap.size by omega)
  clear b1 HZ HY HB WX s1 ltz lty SZ0 SY0
  obtain ⟨w2, hw2⟩ : ∃ w2, w2 = w1.alloc (.cells #[.int .i64 zl, .int .i64 z0, .int .i64 z1, .int .i64 z2, .int .i64 z3, .int .i64 z4, .int .i64 z5, .int .i64 z6, .int .i64 z7] 71) := ⟨_, rfl⟩
  have b2 : Below w1.heap.size w1 w2 := by rw [hw2]; exact (Below.refl _ _).alloc (Nat.le_refl _) _
  have s2 : w1.heap.size + 1 = w2.heap.size := by rw [hw2]; simp
  have l2 := Lib.hid (show w1.heap.size < w2.heap.size by omega)
  have l1' := l1.out
  have HA2 := Lib.hid (show w2.heap[w1.heap.size]? = some (.cells #[.int .i64 zl, .int .i64 z0, .int .i64 z1, .int .i64 z2, .int .i64 z3, .int .i64 z4, .int .i64 z5, .int .i64 z6, .int .i64 z7] 71 (0, 0)) by rw [hw2]; exact alloc_heap _ _)
  have HZ2 := Lib.hid (HZ1.out.below b2 (by omega))
  have HY2 := Lib.hid (HY1.out.below b2 (by omega))
  have HB2 := Lib.hid (HB1.out.trans (b2.mono HB1.out.size))
  clear b2 HZ1 HY1 HB1 s2 l1'
  go_wp2_with fail
  rw [← hw2]
  clear hw2
  refine (WY.out _ HB2.out).mono ?_
  rintro e w3 ⟨rfl, b3⟩
  have s3 := b3.size
  have l1' := l1.out
  have l2' := l2.out
  have l3 := Lib.hid (show w1.heap.size < w3.heap.size by omega)
  have HA3 := Lib.hid ((b3.block w1.heap.size (by omega)).trans HA2.out)
  have HZ3 := Lib.hid (HZ2.out.below b3 (by omega))
  have HY3 := Lib.hid (HY2.out.below b3 (by omega))
  have HB3 := Lib.hid (HB2.out.trans (b3.mono HB2.out.size))
  clear b3 HA2 HZ2 HY2 HB2 WY s3 l1' l2' l2
  obtain ⟨w4, hw4⟩ : ∃ w4, w4 = w3.alloc (.cells #[.int .i64 yl, .int .i64 y0, .int .i64 y1, .int .i64 y2, .int .i64 y3, .int .i64 y4, .int .i64 y5, .int .i64 y6, .int .i64 y7] 71) := ⟨_, rfl⟩
  have b4 : Below w3.heap.size w3 w4 := by rw [hw4]; exact (Below.refl _ _).alloc (Nat.le_refl _) _
  have s4 : w3.heap.size + 1 = w4.heap.size := by rw [hw4]; simp
  have l1' := l1.out
  have l3' := l3.out
  have HE4 := Lib.hid (show w4.heap[w3.heap.size]? = some (.cells #[.int .i64 yl, .int .i64 y0, .int .i64 y1, .int .i64 y2, .int .i64 y3, .int .i64 y4, .int .i64 y5, .int .i64 y6, .int .i64 y7] 71 (0, 0)) by rw [hw4]; exact alloc_heap _ _)
  have HA4 := Lib.hid ((b4.block w1.heap.size (by omega)).trans HA3.out)
  have HZ4 := Lib.hid (HZ3.out.below b4 (by omega))
  have HY4 := Lib.hid (HY3.out.below b4 (by omega))
  have HB4 := Lib.hid (HB3.out.trans (b4.mono HB3.out.size))
  clear b4 HA3 HZ3 HY3 HB3
  obtain ⟨BZ, hBZ⟩ : ∃ B, B = w.heap.size := ⟨_, rfl⟩
  obtain ⟨BY, hBY⟩ : ∃ B, B = wb.heap.size := ⟨_, rfl⟩
  obtain ⟨BA, hBA⟩ : ∃ B, B = w1.heap.size := ⟨_, rfl⟩
  obtain ⟨BE, hBE⟩ : ∃ B, B = w3.heap.size := ⟨_, rfl⟩
  rw [← hBZ] at HZ4
  rw [← hBY] at HY4
  rw [← hBA] at HA4
  rw [← hBE] at HE4
  have lz4 : w.heap.size ≤ BZ := by omega
  have ly4 : w.heap.size ≤ BY := by omega
  have n1 : ¬ BZ = BY := by omega
  have n2 : ¬ BZ = BA := by omega
  have n3 : ¬ BZ = BE := by omega
  have n4 : ¬ BY = BA := by omega
  have n5 : ¬ BY = BE := by omega
  have n6 : ¬ BA = BE := by omega
  have n1' : ¬ BY = BZ := by omega
  have n2' : ¬ BA = BZ := by omega
  have n3' : ¬ BE = BZ := by omega
  have n4' : ¬ BA = BY := by omega
  have n5' : ¬ BE = BY := by omega
  have n6' : ¬ BE = BA := by omega
  have hBs := Lib.hid (And.intro hBZ (And.intro hBY (And.intro hBA hBE)))
  clear hBZ hBY hBA hBE s4 l1' l3' l1 l3
  go_wp2_with fail
  rw [← hw4]
  simp only [← hBs.out.1, ← hBs.out.2.1, ← hBs.out.2.2.1, ← hBs.out.2.2.2]
  clear hw4
  obtain ⟨d0, d1, d2, d3, d4, d5, d6, d7, d8⟩ := nine_cells HA4.out
  obtain ⟨e0, e1, e2, e3, e4, e5, e6, e7, e8⟩ := nine_cells HE4.out
  obtain ⟨c0, f0⟩ := HZ4.out.cells 0 (by omega)
  obtain ⟨c1, f1⟩ := HZ4.out.cells 1 (by omega)
  obtain ⟨c2, f2⟩ := HZ4.out.cells 2 (by omega)
  obtain ⟨c3, f3⟩ := HZ4.out.cells 3 (by omega)
  obtain ⟨c4, f4⟩ := HZ4.out.cells 4 (by omega)
  obtain ⟨c5, f5⟩ := HZ4.out.cells 5 (by omega)
  obtain ⟨c6, f6⟩ := HZ4.out.cells 6 (by omega)
  obtain ⟨c7, f7⟩ := HZ4.out.cells 7 (by omega)
  obtain ⟨c8, f8⟩ := HZ4.out.cells 8 (by omega)
  obtain ⟨x0, g0⟩ := HY4.out.cells 0 (by omega)
  obtain ⟨x1, g1⟩ := HY4.out.cells 1 (by omega)
  obtain ⟨x2, g2⟩ := HY4.out.cells 2 (by omega)
  obtain ⟨x3, g3⟩ := HY4.out.cells 3 (by omega)
  obtain ⟨x4, g4⟩ := HY4.out.cells 4 (by omega)
  obtain ⟨x5, g5⟩ := HY4.out.cells 5 (by omega)
  obtain ⟨x6, g6⟩ := HY4.out.cells 6 (by omega)
  obtain ⟨x7, g7⟩ := HY4.out.cells 7 (by omega)
  obtain ⟨x8, g8⟩ := HY4.out.cells 8 (by omega)
  clear hBs GZ GY
  obtain ⟨w5, hw5⟩ : ∃ w5, w5 = (((((((((w4.setCell ⟨BZ, 0, none⟩ (.int .i64 zl)).setCell ⟨BZ, 1, none⟩ (.int .i64 z0)).setCell ⟨BZ, 2, none⟩ (.int .i64 z1)).setCell ⟨BZ, 3, none⟩ (.int .i64 z2)).setCell ⟨BZ, 4, none⟩ (.int .i64 z3)).setCell ⟨BZ, 5, none⟩ (.int .i64 z4)).setCell ⟨BZ, 6, none⟩ (.int .i64 z5)).setCell ⟨BZ, 7, none⟩ (.int .i64 z6)).setCell ⟨BZ, 8, none⟩ (.int .i64 z7)) := ⟨_, rfl⟩
  have B5 : Below w.heap.size w w5 := by rw [hw5]; exact bl_nine HB4.out lz4 _ _ _ _ _ _ _ _ _
  have PZ : w5.cell? ⟨BZ, 0, none⟩ = some (.int .i64 zl) ∧ w5.cell? ⟨BZ, 1, none⟩ = some (.int .i64 z0) ∧ w5.cell? ⟨BZ, 2, none⟩ = some (.int .i64 z1) ∧ w5.cell? ⟨BZ, 3, none⟩ = some (.int .i64 z2) ∧ w5.cell? ⟨BZ, 4, none⟩ = some (.int .i64 z3) ∧ w5.cell? ⟨BZ, 5, none⟩ = some (.int .i64 z4) ∧ w5.cell? ⟨BZ, 6, none⟩ = some (.int .i64 z5) ∧ w5.cell? ⟨BZ, 7, none⟩ = some (.int .i64 z6) ∧ w5.cell? ⟨BZ, 8, none⟩ = some (.int .i64 z7) := by rw [hw5]; exact nine_in (fun j hj => by rw [(HZ4.out.cells j hj).1]; rfl) _ _ _ _ _ _ _ _ _
  have YI : ∀ j, j < 9 → (w5.cell? ⟨BY, j, none⟩).isSome = true := fun j hj => by rw [hw5, nine_out n1']; rw [(HY4.out.cells j hj).1]; rfl
  obtain ⟨w6, hw6⟩ : ∃ w6, w6 = (((((((((w5.setCell ⟨BY, 0, none⟩ (.int .i64 yl)).setCell ⟨BY, 1, none⟩ (.int .i64 y0)).setCell ⟨BY, 2, none⟩ (.int .i64 y1)).setCell ⟨BY, 3, none⟩ (.int .i64 y2)).setCell ⟨BY, 4, none⟩ (.int .i64 y3)).setCell ⟨BY, 5, none⟩ (.int .i64 y4)).setCell ⟨BY, 6, none⟩ (.int .i64 y5)).setCell ⟨BY, 7, none⟩ (.int .i64 y6)).setCell ⟨BY, 8, none⟩ (.int .i64 y7)) := ⟨_, rfl⟩
  have B6 := Lib.hid (show Below w.heap.size w w6 by rw [hw6]; exact bl_nine B5 ly4 _ _ _ _ _ _ _ _ _)
  have PY : w6.cell? ⟨BY, 0, none⟩ = some (.int .i64 yl) ∧ w6.cell? ⟨BY, 1, none⟩ = some (.int .i64 y0) ∧ w6.cell? ⟨BY, 2, none⟩ = some (.int .i64 y1) ∧ w6.cell? ⟨BY, 3, none⟩ = some (.int .i64 y2) ∧ w6.cell? ⟨BY, 4, none⟩ = some (.int .i64 y3) ∧ w6.cell? ⟨BY, 5, none⟩ = some (.int .i64 y4) ∧ w6.cell? ⟨BY, 6, none⟩ = some (.int .i64 y5) ∧ w6.cell? ⟨BY, 7, none⟩ = some (.int .i64 y6) ∧ w6.cell? ⟨BY, 8, none⟩ = some (.int .i64 y7) := by rw [hw6]; exact nine_in YI _ _ _ _ _ _ _ _ _
  have PX : w6.cell? ⟨BZ, 0, none⟩ = some (.int .i64 zl) ∧ w6.cell? ⟨BZ, 1, none⟩ = some (.int .i64 z0) ∧ w6.cell? ⟨BZ, 2, none⟩ = some (.int .i64 z1) ∧ w6.cell? ⟨BZ, 3, none⟩ = some (.int .i64 z2) ∧ w6.cell? ⟨BZ, 4, none⟩ = some (.int .i64 z3) ∧ w6.cell? ⟨BZ, 5, none⟩ = some (.int .i64 z4) ∧ w6.cell? ⟨BZ, 6, none⟩ = some (.int .i64 z5) ∧ w6.cell? ⟨BZ, 7, none⟩ = some (.int .i64 z6) ∧ w6.cell? ⟨BZ, 8, none⟩ = some (.int .i64 z7) := by
    rw [hw6]
    simp only [nine_out n1]
    exact PZ
  have K6 := Lib.hid (And.intro PX PY)
  have E6 := Lib.hid (And.intro hw5 hw6)
  clear hw5 hw6 PZ YI PX PY B5
  cases o1
  · go_big_region
    rw [← E6.out.1, ← E6.out.2]
    clear c0 c1 c2 c3 c4 c5 c6 c7 c8 x0 x1 x2 x3 x4 x5 x6 x7 x8 d0 d1 d2 d3 d4 d5 d6 d7 d8 e0 e1 e2 e3 e4 e5 e6 e7 e8 f0 f1 f2 f3 f4 f5 f6 f7 f8 g0 g1 g2 g3 g4 g5 g6 g7 g8
    obtain ⟨⟨c0, c1, c2, c3, c4, c5, c6, c7, c8⟩, ⟨x0, x1, x2, x3, x4, x5, x6, x7, x8⟩⟩ := K6.out
    go_wp2_with fail
    refine bodyPost_ret (v := .tuple #[.agg #[.int .i64 zl, .int .i64 z0, .int .i64 z1, .int .i64 z2, .int .i64 z3, .int .i64 z4, .int .i64 z5, .int .i64 z6, .int .i64 z7], .agg #[.int .i64 yl, .int .i64 y0, .int .i64 y1, .int .i64 y2, .int .i64 y3, .int .i64 y4, .int .i64 y5, .int .i64 y6, .int .i64 y7], .bool (false && o2)]) (by simp [results, Try.results64, go_sem, c0, c1, c2, c3, c4, c5, c6, c7, c8, x0, x1, x2, x3, x4, x5, x6, x7, x8]) rfl ⟨rfl, ?_⟩
    exact B6.out.drew
  · go_big_region
    rw [← E6.out.1, ← E6.out.2]
    clear c0 c1 c2 c3 c4 c5 c6 c7 c8 x0 x1 x2 x3 x4 x5 x6 x7 x8 d0 d1 d2 d3 d4 d5 d6 d7 d8 e0 e1 e2 e3 e4 e5 e6 e7 e8 f0 f1 f2 f3 f4 f5 f6 f7 f8 g0 g1 g2 g3 g4 g5 g6 g7 g8
    obtain ⟨⟨c0, c1, c2, c3, c4, c5, c6, c7, c8⟩, ⟨x0, x1, x2, x3, x4, x5, x6, x7, x8⟩⟩ := K6.out
    go_wp2_with fail
    refine bodyPost_ret (v := .tuple #[.agg #[.int .i64 zl, .int .i64 z0, .int .i64 z1, .int .i64 z2, .int .i64 z3, .int .i64 z4, .int .i64 z5, .int .i64 z6, .int .i64 z7], .agg #[.int .i64 yl, .int .i64 y0, .int .i64 y1, .int .i64 y2, .int .i64 y3, .int .i64 y4, .int .i64 y5, .int .i64 y6, .int .i64 y7], .bool (true && o2)]) (by simp [results, Try.results64, go_sem, c0, c1, c2, c3, c4, c5, c6, c7, c8, x0, x1, x2, x3, x4, x5, x6, x7, x8]) rfl ⟨rfl, ?_⟩
    exact B6.out.drew
end Go.Proofs.Ytagoodkaobcjaab
