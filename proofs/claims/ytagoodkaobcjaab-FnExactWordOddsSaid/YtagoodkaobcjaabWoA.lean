/- WdsC, OvlN, OvfI, WoP, WoI, WoS in one text. -/
import Derived.Test.YtagoodkaobcjaabWwI
import Derived.Test.YtagoodkaobcjaabOvlM
import Derived.Test.YtagoodkaobcjaabFracB
import Derived.Test.YtagoodkaobcjaabRes
import Derived.Test.YtagoodkaobcjaabFracC
import Derived.Test.YtagoodkaobcjaabFracK
import Derived.BigRegion
import Derived.Laws.IdiomCopy
import Derived.KernelRfl
import Derived.Deep.RegionHeld3
import Derived.Deep.DeepCutAuto
namespace Go.Proofs.Ytagoodkaobcjaab
open Go.RowKit
set_option linter.unusedVariables false
theorem nine_in {w : World} {g : Nat} (h : ∀ j, j < 9 → (w.cell? ⟨g, j, none⟩).isSome = true) (x0 x1 x2 x3 x4 x5 x6 x7 x8 : Value) :
    (((((((((w.setCell ⟨g, 0, none⟩ x0).setCell ⟨g, 1, none⟩ x1).setCell ⟨g, 2, none⟩ x2).setCell ⟨g, 3, none⟩ x3).setCell ⟨g, 4, none⟩ x4).setCell ⟨g, 5, none⟩ x5).setCell ⟨g, 6, none⟩ x6).setCell ⟨g, 7, none⟩ x7).setCell ⟨g, 8, none⟩ x8).cell? ⟨g, 0, none⟩ = some x0 ∧ (((((((((w.setCell ⟨g, 0, none⟩ x0).setCell ⟨g, 1, none⟩ x1).setCell ⟨g, 2, none⟩ x2).setCell ⟨g, 3, none⟩ x3).setCell ⟨g, 4, none⟩ x4).setCell ⟨g, 5, none⟩ x5).setCell ⟨g, 6, none⟩ x6).setCell ⟨g, 7, none⟩ x7).setCell ⟨g, 8, none⟩ x8).cell? ⟨g, 1, none⟩ = some x1 ∧ (((((((((w.setCell ⟨g, 0, none⟩ x0).setCell ⟨g, 1, none⟩ x1).setCell ⟨g, 2, none⟩ x2).setCell ⟨g, 3, none⟩ x3).setCell ⟨g, 4, none⟩ x4).setCell ⟨g, 5, none⟩ x5).setCell ⟨g, 6, none⟩ x6).setCell ⟨g, 7, none⟩ x7).setCell ⟨g, 8, none⟩ x8).cell? ⟨g, 2, none⟩ = some x2 ∧ (((((((((w.setCell ⟨g, 0, none⟩ x0).setCell ⟨g, 1, none⟩ x1).setCell ⟨g, 2, none⟩ x2).setCell ⟨g, 3, none⟩ x3).setCell ⟨g, 4, none⟩ x4).setCell ⟨g, 5, none⟩ x5).setCell ⟨g, 6, none⟩ x6).setCell ⟨g, 7, none⟩ x7).setCell ⟨g, 8, none⟩ x8).cell? ⟨g, 3, none⟩ = some x3 ∧ (((((((((w.setCell ⟨g, 0, none⟩ x0).setCell ⟨g, 1, none⟩ x1).setCell ⟨g, 2, none⟩ x2).setCell ⟨g, 3, none⟩ x3).setCell ⟨g, 4, none⟩ x4).setCell ⟨g, 5, none⟩ x5).setCell ⟨g, 6, none⟩ x6).setCell ⟨g, 7, none⟩ x7).setCell ⟨g, 8, none⟩ x8).cell? ⟨g, 4, none⟩ = some x4 ∧ (((((((((w.setCell ⟨g, 0, none⟩ x0).setCell ⟨g, 1, none⟩ x1).setCell ⟨g, 2, none⟩ x2).setCell ⟨g, 3, none⟩ x3).setCell ⟨g, 4, none⟩ x4).setCell ⟨g, 5, none⟩ x5).setCell ⟨g, 6, none⟩ x6).setCell ⟨g, 7, none⟩ x7).setCell ⟨g, 8, none⟩ x8).cell? ⟨g, 5, none⟩ = some x5 ∧ (((((((((w.setCell ⟨g, 0, none⟩ x0).setCell ⟨g, 1, none⟩ x1).setCell ⟨g, 2, none⟩ x2).setCell ⟨g, 3, none⟩ x3).setCell ⟨g, 4, none⟩ x4).setCell ⟨g, 5, none⟩ x5).setCell ⟨g, 6, none⟩ x6).setCell ⟨g, 7, none⟩ x7).setCell ⟨g, 8, none⟩ x8).cell? ⟨g, 6, none⟩ = some x6 ∧ (((((((((w.setCell ⟨g, 0, none⟩ x0).setCell ⟨g, 1, none⟩ x1).setCell ⟨g, 2, none⟩ x2).setCell ⟨g, 3, none⟩ x3).setCell ⟨g, 4, none⟩ x4).setCell ⟨g, 5, none⟩ x5).setCell ⟨g, 6, none⟩ x6).setCell ⟨g, 7, none⟩ x7).setCell ⟨g, 8, none⟩ x8).cell? ⟨g, 7, none⟩ = some x7 ∧ (((((((((w.setCell ⟨g, 0, none⟩ x0).setCell ⟨g, 1, none⟩ x1).setCell ⟨g, 2, none⟩ x2).setCell ⟨g, 3, none⟩ x3).setCell ⟨g, 4, none⟩ x4).setCell ⟨g, 5, none⟩ x5).setCell ⟨g, 6, none⟩ x6).setCell ⟨g, 7, none⟩ x7).setCell ⟨g, 8, none⟩ x8).cell? ⟨g, 8, none⟩ = some x8 := by
  have H := World.cell?_setCells_in g [x0, x1, x2, x3, x4, x5, x6, x7, x8] 0 w (fun j hj => by rw [Nat.zero_add]; exact h j hj)
  exact ⟨H 0 (by simp), H 1 (by simp), H 2 (by simp), H 3 (by simp), H 4 (by simp), H 5 (by simp), H 6 (by simp), H 7 (by simp), H 8 (by simp)⟩
theorem nine_out {w : World} {g k j : Nat} (hk : ¬ k = g) {x0 x1 x2 x3 x4 x5 x6 x7 x8 : Value} : (((((((((w.setCell ⟨g, 0, none⟩ x0).setCell ⟨g, 1, none⟩ x1).setCell ⟨g, 2, none⟩ x2).setCell ⟨g, 3, none⟩ x3).setCell ⟨g, 4, none⟩ x4).setCell ⟨g, 5, none⟩ x5).setCell ⟨g, 6, none⟩ x6).setCell ⟨g, 7, none⟩ x7).setCell ⟨g, 8, none⟩ x8).cell? ⟨k, j, none⟩ = w.cell? ⟨k, j, none⟩ :=
  World.cell?_setCells_out g [x0, x1, x2, x3, x4, x5, x6, x7, x8] 0 w ⟨k, j, none⟩ (fun hb => absurd hb hk)
set_option maxRecDepth 100000 in
set_option maxHeartbeats 8000000 in
theorem wordsC (f : Int) (xs bs : List Int) (v u : Value) (w : World) (hn : xs.length ≤ 1048576) (hm : bs.length ≤ 1048576) (h : IntsV w w.heap.size v xs) (k : IntsV w w.heap.size u bs) :
    Calls Try.prog 64 #[.int .i64 f, v, u] w (Gives (.tuple #[shV (wdZ f xs), shV (wdZ f bs), .bool (wdOk f xs && wdOk f bs)]) w) := by
  obtain ⟨wb, hwb, HZ0, HB0, SZ0⟩ := z_setup w
  obtain ⟨wc, hwc, HY0, HC0, SY0⟩ := z_setup wb
  have HZ := Lib.hid (HZ0.below HC0 (by omega))
  have HY := Lib.hid HY0
  have HB := Lib.hid (HB0.trans (HC0.mono HB0.size))
  have WX : Hid (∀ w', Below w.heap.size w w' → Calls Try.prog 67 #[.int .i64 f, v] w' (Gives (.tuple #[shV (wdZ f xs), .bool (wdOk f xs)]) w')) := Lib.hid (fun w' hb => wordC f xs v w' hn ((h.below hb).more hb.size))
  have WY : Hid (∀ w', Below w.heap.size w w' → Calls Try.prog 67 #[.int .i64 f, u] w' (Gives (.tuple #[shV (wdZ f bs), .bool (wdOk f bs)]) w')) := Lib.hid (fun w' hb => wordC f bs u w' hm ((k.below hb).more hb.size))
  obtain ⟨qq, cq, rfl, _⟩ := h
  obtain ⟨qr, cr, rfl, _⟩ := k
  have ltz : w.heap.size < wc.heap.size := by omega
  have lty : wb.heap.size < wc.heap.size := by omega
  obtain ⟨zl, z0, z1, z2, z3, z4, z5, z6, z7, SAL, SA⟩ := sh_form (wdZ f xs)
  obtain ⟨yl, y0, y1, y2, y3, y4, y5, y6, y7, SBL, SB⟩ := sh_form (wdZ f bs)
  unfold shV at WX WY ⊢
  rw [SA] at WX ⊢
  rw [SB] at WY ⊢
  obtain ⟨o1, ho1⟩ : ∃ o, o = wdOk f xs := ⟨_, rfl⟩
  obtain ⟨o2, ho2⟩ : ∃ o, o = wdOk f bs := ⟨_, rfl⟩
  rw [← ho1] at WX ⊢
  rw [← ho2] at WY ⊢
  clear HZ0 HY0 HB0 HC0 SA SAL SB SBL ho1 ho2
  have GZ := Lib.hid SZ0
  have GY := Lib.hid SY0
  clear SZ0 SY0 ltz lty
  go_enter Try.func64, Try.ntmps64
  go_wp2_with fail
  rw [← hwb]
  rw [← hwc]
  rw [show w.heap.size + 1 = wb.heap.size from GZ.out.symm]
  clear hwb hwc
  have SZ0 := GZ.out
  have SY0 := GY.out
  have ltz : w.heap.size < wc.heap.size := by omega
  have lty : wb.heap.size < wc.heap.size := by omega
  refine (WX.out _ HB.out).mono ?_
  rintro e w1 ⟨rfl, b1⟩
  have s1 := b1.size
  have HZ1 := Lib.hid (HZ.out.below b1 ltz)
  have HY1 := Lib.hid (HY.out.below b1 lty)
  have HB1 := Lib.hid (HB.out.trans (b1.mono HB.out.size))
  have l1 := Lib.hid (show w.heap.size < wb.heap.size ∧ wb.heap.size < w1.heap.size by omega)
  clear b1 HZ HY HB WX s1 ltz lty SZ0 SY0
  obtain ⟨w2, hw2⟩ : ∃ w2, w2 = w1.alloc (.cells #[.int .i64 zl, .int .i64 z0, .int .i64 z1, .int .i64 z2, .int .i64 z3, .int .i64 z4, .int .i64 z5, .int .i64 z6, .int .i64 z7] 71) := ⟨_, rfl⟩
  have b2 : Below w1.heap.size w1 w2 := by rw [hw2]; exact (Below.refl _ _).alloc (Nat.le_refl _) _
  have s2 : w1.heap.size + 1 = w2.heap.size := by rw [hw2]; simp
  have l2 := Lib.hid (show w1.heap.size < w2.heap.size by omega)
  have l1' := l1.out
  have HA2 := Lib.hid (show w2.heap[w1.heap.size]? = some (.cells #[.int .i64 zl, .int .i64 z0, .int .i64 z1, .int .i64 z2, .int .i64 z3, .int .i64 z4, .int .i64 z5, .int .i64 z6, .int .i64 z7] 71 (0, 0)) by rw [hw2]; exact alloc_heap _ _)
  have HZ2 := Lib.hid (HZ1.out.below b2 (by omega))
  have HY2 := Lib.hid (HY1.out.below b2 (by omega))
  have HB2 := Lib.hid (HB1.out.trans (b2.mono HB1.out.size))
  clear b2 HZ1 HY1 HB1 s2 l1'
  go_wp2_with fail
  rw [← hw2]
  clear hw2
  refine (WY.out _ HB2.out).mono ?_
  rintro e w3 ⟨rfl, b3⟩
  have s3 := b3.size
  have l1' := l1.out
  have l2' := l2.out
  have l3 := Lib.hid (show w1.heap.size < w3.heap.size by omega)
  have HA3 := Lib.hid ((b3.block w1.heap.size (by omega)).trans HA2.out)
  have HZ3 := Lib.hid (HZ2.out.below b3 (by omega))
  have HY3 := Lib.hid (HY2.out.below b3 (by omega))
  have HB3 := Lib.hid (HB2.out.trans (b3.mono HB2.out.size))
  clear b3 HA2 HZ2 HY2 HB2 WY s3 l1' l2' l2
  obtain ⟨w4, hw4⟩ : ∃ w4, w4 = w3.alloc (.cells #[.int .i64 yl, .int .i64 y0, .int .i64 y1, .int .i64 y2, .int .i64 y3, .int .i64 y4, .int .i64 y5, .int .i64 y6, .int .i64 y7] 71) := ⟨_, rfl⟩
  have b4 : Below w3.heap.size w3 w4 := by rw [hw4]; exact (Below.refl _ _).alloc (Nat.le_refl _) _
  have s4 : w3.heap.size + 1 = w4.heap.size := by rw [hw4]; simp
  have l1' := l1.out
  have l3' := l3.out
  have HE4 := Lib.hid (show w4.heap[w3.heap.size]? = some (.cells #[.int .i64 yl, .int .i64 y0, .int .i64 y1, .int .i64 y2, .int .i64 y3, .int .i64 y4, .int .i64 y5, .int .i64 y6, .int .i64 y7] 71 (0, 0)) by rw [hw4]; exact alloc_heap _ _)
  have HA4 := Lib.hid ((b4.block w1.heap.size (by omega)).trans HA3.out)
  have HZ4 := Lib.hid (HZ3.out.below b4 (by omega))
  have HY4 := Lib.hid (HY3.out.below b4 (by omega))
  have HB4 := Lib.hid (HB3.out.trans (b4.mono HB3.out.size))
  clear b4 HA3 HZ3 HY3 HB3
  obtain ⟨BZ, hBZ⟩ : ∃ B, B = w.heap.size := ⟨_, rfl⟩
  obtain ⟨BY, hBY⟩ : ∃ B, B = wb.heap.size := ⟨_, rfl⟩
  obtain ⟨BA, hBA⟩ : ∃ B, B = w1.heap.size := ⟨_, rfl⟩
  obtain ⟨BE, hBE⟩ : ∃ B, B = w3.heap.size := ⟨_, rfl⟩
  rw [← hBZ] at HZ4
  rw [← hBY] at HY4
  rw [← hBA] at HA4
  rw [← hBE] at HE4
  have lz4 : w.heap.size ≤ BZ := by omega
  have ly4 : w.heap.size ≤ BY := by omega
  have n1 : ¬ BZ = BY := by omega
  have n2 : ¬ BZ = BA := by omega
  have n3 : ¬ BZ = BE := by omega
  have n4 : ¬ BY = BA := by omega
  have n5 : ¬ BY = BE := by omega
  have n6 : ¬ BA = BE := by omega
  have n1' : ¬ BY = BZ := by omega
  have n2' : ¬ BA = BZ := by omega
  have n3' : ¬ BE = BZ := by omega
  have n4' : ¬ BA = BY := by omega
  have n5' : ¬ BE = BY := by omega
  have n6' : ¬ BE = BA := by omega
  have hBs := Lib.hid (And.intro hBZ (And.intro hBY (And.intro hBA hBE)))
  clear hBZ hBY hBA hBE s4 l1' l3' l1 l3
  go_wp2_with fail
  rw [← hw4]
  simp only [← hBs.out.1, ← hBs.out.2.1, ← hBs.out.2.2.1, ← hBs.out.2.2.2]
  clear hw4
  obtain ⟨d0, d1, d2, d3, d4, d5, d6, d7, d8⟩ := nine_cells HA4.out
  obtain ⟨e0, e1, e2, e3, e4, e5, e6, e7, e8⟩ := nine_cells HE4.out
  obtain ⟨c0, f0⟩ := HZ4.out.cells 0 (by omega)
  obtain ⟨c1, f1⟩ := HZ4.out.cells 1 (by omega)
  obtain ⟨c2, f2⟩ := HZ4.out.cells 2 (by omega)
  obtain ⟨c3, f3⟩ := HZ4.out.cells 3 (by omega)
  obtain ⟨c4, f4⟩ := HZ4.out.cells 4 (by omega)
  obtain ⟨c5, f5⟩ := HZ4.out.cells 5 (by omega)
  obtain ⟨c6, f6⟩ := HZ4.out.cells 6 (by omega)
  obtain ⟨c7, f7⟩ := HZ4.out.cells 7 (by omega)
  obtain ⟨c8, f8⟩ := HZ4.out.cells 8 (by omega)
  obtain ⟨x0, g0⟩ := HY4.out.cells 0 (by omega)
  obtain ⟨x1, g1⟩ := HY4.out.cells 1 (by omega)
  obtain ⟨x2, g2⟩ := HY4.out.cells 2 (by omega)
  obtain ⟨x3, g3⟩ := HY4.out.cells 3 (by omega)
  obtain ⟨x4, g4⟩ := HY4.out.cells 4 (by omega)
  obtain ⟨x5, g5⟩ := HY4.out.cells 5 (by omega)
  obtain ⟨x6, g6⟩ := HY4.out.cells 6 (by omega)
  obtain ⟨x7, g7⟩ := HY4.out.cells 7 (by omega)
  obtain ⟨x8, g8⟩ := HY4.out.cells 8 (by omega)
  clear hBs GZ GY
  obtain ⟨w5, hw5⟩ : ∃ w5, w5 = (((((((((w4.setCell ⟨BZ, 0, none⟩ (.int .i64 zl)).setCell ⟨BZ, 1, none⟩ (.int .i64 z0)).setCell ⟨BZ, 2, none⟩ (.int .i64 z1)).setCell ⟨BZ, 3, none⟩ (.int .i64 z2)).setCell ⟨BZ, 4, none⟩ (.int .i64 z3)).setCell ⟨BZ, 5, none⟩ (.int .i64 z4)).setCell ⟨BZ, 6, none⟩ (.int .i64 z5)).setCell ⟨BZ, 7, none⟩ (.int .i64 z6)).setCell ⟨BZ, 8, none⟩ (.int .i64 z7)) := ⟨_, rfl⟩
  have B5 : Below w.heap.size w w5 := by rw [hw5]; exact bl_nine HB4.out lz4 _ _ _ _ _ _ _ _ _
  have PZ : w5.cell? ⟨BZ, 0, none⟩ = some (.int .i64 zl) ∧ w5.cell? ⟨BZ, 1, none⟩ = some (.int .i64 z0) ∧ w5.cell? ⟨BZ, 2, none⟩ = some (.int .i64 z1) ∧ w5.cell? ⟨BZ, 3, none⟩ = some (.int .i64 z2) ∧ w5.cell? ⟨BZ, 4, none⟩ = some (.int .i64 z3) ∧ w5.cell? ⟨BZ, 5, none⟩ = some (.int .i64 z4) ∧ w5.cell? ⟨BZ, 6, none⟩ = some (.int .i64 z5) ∧ w5.cell? ⟨BZ, 7, none⟩ = some (.int .i64 z6) ∧ w5.cell? ⟨BZ, 8, none⟩ = some (.int .i64 z7) := by rw [hw5]; exact nine_in (fun j hj => by rw [(HZ4.out.cells j hj).1]; rfl) _ _ _ _ _ _ _ _ _
  have YI : ∀ j, j < 9 → (w5.cell? ⟨BY, j, none⟩).isSome = true := fun j hj => by rw [hw5, nine_out n1']; rw [(HY4.out.cells j hj).1]; rfl
  obtain ⟨w6, hw6⟩ : ∃ w6, w6 = (((((((((w5.setCell ⟨BY, 0, none⟩ (.int .i64 yl)).setCell ⟨BY, 1, none⟩ (.int .i64 y0)).setCell ⟨BY, 2, none⟩ (.int .i64 y1)).setCell ⟨BY, 3, none⟩ (.int .i64 y2)).setCell ⟨BY, 4, none⟩ (.int .i64 y3)).setCell ⟨BY, 5, none⟩ (.int .i64 y4)).setCell ⟨BY, 6, none⟩ (.int .i64 y5)).setCell ⟨BY, 7, none⟩ (.int .i64 y6)).setCell ⟨BY, 8, none⟩ (.int .i64 y7)) := ⟨_, rfl⟩
  have B6 := Lib.hid (show Below w.heap.size w w6 by rw [hw6]; exact bl_nine B5 ly4 _ _ _ _ _ _ _ _ _)
  have PY : w6.cell? ⟨BY, 0, none⟩ = some (.int .i64 yl) ∧ w6.cell? ⟨BY, 1, none⟩ = some (.int .i64 y0) ∧ w6.cell? ⟨BY, 2, none⟩ = some (.int .i64 y1) ∧ w6.cell? ⟨BY, 3, none⟩ = some (.int .i64 y2) ∧ w6.cell? ⟨BY, 4, none⟩ = some (.int .i64 y3) ∧ w6.cell? ⟨BY, 5, none⟩ = some (.int .i64 y4) ∧ w6.cell? ⟨BY, 6, none⟩ = some (.int .i64 y5) ∧ w6.cell? ⟨BY, 7, none⟩ = some (.int .i64 y6) ∧ w6.cell? ⟨BY, 8, none⟩ = some (.int .i64 y7) := by rw [hw6]; exact nine_in YI _ _ _ _ _ _ _ _ _
  have PX : w6.cell? ⟨BZ, 0, none⟩ = some (.int .i64 zl) ∧ w6.cell? ⟨BZ, 1, none⟩ = some (.int .i64 z0) ∧ w6.cell? ⟨BZ, 2, none⟩ = some (.int .i64 z1) ∧ w6.cell? ⟨BZ, 3, none⟩ = some (.int .i64 z2) ∧ w6.cell? ⟨BZ, 4, none⟩ = some (.int .i64 z3) ∧ w6.cell? ⟨BZ, 5, none⟩ = some (.int .i64 z4) ∧ w6.cell? ⟨BZ, 6, none⟩ = some (.int .i64 z5) ∧ w6.cell? ⟨BZ, 7, none⟩ = some (.int .i64 z6) ∧ w6.cell? ⟨BZ, 8, none⟩ = some (.int .i64 z7) := by
    rw [hw6]
    simp only [nine_out n1]
    exact PZ
  have K6 := Lib.hid (And.intro PX PY)
  have E6 := Lib.hid (And.intro hw5 hw6)
  clear hw5 hw6 PZ YI PX PY B5
  cases o1
  · go_big_region
    rw [← E6.out.1, ← E6.out.2]
    clear c0 c1 c2 c3 c4 c5 c6 c7 c8 x0 x1 x2 x3 x4 x5 x6 x7 x8 d0 d1 d2 d3 d4 d5 d6 d7 d8 e0 e1 e2 e3 e4 e5 e6 e7 e8 f0 f1 f2 f3 f4 f5 f6 f7 f8 g0 g1 g2 g3 g4 g5 g6 g7 g8
    obtain ⟨⟨c0, c1, c2, c3, c4, c5, c6, c7, c8⟩, ⟨x0, x1, x2, x3, x4, x5, x6, x7, x8⟩⟩ := K6.out
    go_wp2_with fail
    refine bodyPost_ret (v := .tuple #[.agg #[.int .i64 zl, .int .i64 z0, .int .i64 z1, .int .i64 z2, .int .i64 z3, .int .i64 z4, .int .i64 z5, .int .i64 z6, .int .i64 z7], .agg #[.int .i64 yl, .int .i64 y0, .int .i64 y1, .int .i64 y2, .int .i64 y3, .int .i64 y4, .int .i64 y5, .int .i64 y6, .int .i64 y7], .bool (false && o2)]) (by simp [results, Try.results64, go_sem, c0, c1, c2, c3, c4, c5, c6, c7, c8, x0, x1, x2, x3, x4, x5, x6, x7, x8]) rfl ⟨rfl, ?_⟩
    exact B6.out.drew
  · go_big_region
    rw [← E6.out.1, ← E6.out.2]
    clear c0 c1 c2 c3 c4 c5 c6 c7 c8 x0 x1 x2 x3 x4 x5 x6 x7 x8 d0 d1 d2 d3 d4 d5 d6 d7 d8 e0 e1 e2 e3 e4 e5 e6 e7 e8 f0 f1 f2 f3 f4 f5 f6 f7 f8 g0 g1 g2 g3 g4 g5 g6 g7 g8
    obtain ⟨⟨c0, c1, c2, c3, c4, c5, c6, c7, c8⟩, ⟨x0, x1, x2, x3, x4, x5, x6, x7, x8⟩⟩ := K6.out
    go_wp2_with fail
    refine bodyPost_ret (v := .tuple #[.agg #[.int .i64 zl, .int .i64 z0, .int .i64 z1, .int .i64 z2, .int .i64 z3, .int .i64 z4, .int .i64 z5, .int .i64 z6, .int .i64 z7], .agg #[.int .i64 yl, .int .i64 y0, .int .i64 y1, .int .i64 y2, .int .i64 y3, .int .i64 y4, .int .i64 y5, .int .i64 y6, .int .i64 y7], .bool (true && o2)]) (by simp [results, Try.results64, go_sem, c0, c1, c2, c3, c4, c5, c6, c7, c8, x0, x1, x2, x3, x4, x5, x6, x7, x8]) rfl ⟨rfl, ?_⟩
    exact B6.out.drew
end Go.Proofs.Ytagoodkaobcjaab
namespace Go.Proofs.Ytagoodkaobcjaab
open Go.RowKit
set_option linter.unusedVariables false
theorem SubB.intsV {w : World} {v : Value} {zs : List Int} (h : IntsV w w.heap.size v zs) : ∃ p c, v = .slice p zs.length c ∧ zs.length ≤ c ∧ SubB w p zs := by
  obtain ⟨q, cq, rfl, lq, mq, zq, iq⟩ := h
  exact ⟨q, cq, rfl, lq, SubB.of (Nat.le_refl _) iq⟩
theorem SubB.drop {w : World} {ba oa lo : Nat} {L : List Int} (h : SubB w (some ⟨ba, oa, none⟩) L) : SubB w (some ⟨ba, oa + lo, none⟩) (L.drop lo) := by
  refine ⟨fun h0 => ?_⟩
  rw [List.length_drop] at h0
  obtain ⟨b, off, e, hlt, hc⟩ := h.at_ (by omega)
  injection e with e
  injection e with e1 e2
  subst e1; subst e2
  refine ⟨ba, oa + lo, rfl, hlt, fun j hj => ?_⟩
  rw [List.length_drop] at hj
  rw [drop_getD, Nat.add_assoc]
  exact hc (lo + j) (by omega)
theorem SubB.take {w : World} {p : Option Addr} {k : Nat} {L : List Int} (h : SubB w p L) : SubB w p (L.take k) := by
  refine ⟨fun h0 => ?_⟩
  rw [List.length_take] at h0
  obtain ⟨b, off, e, hlt, hc⟩ := h.at_ (by omega)
  refine ⟨b, off, e, hlt, fun j hj => ?_⟩
  rw [List.length_take] at hj
  rw [take_getD _ _ _ (by omega)]
  exact hc j (by omega)
theorem SubB.drewN {w : World} {p : Option Addr} {L : List Int} (h : SubB w p L) (n : Nat) : SubB (w.drewN n) p L := h.below (below_drewN (Below.refl _ _) n)
set_option maxRecDepth 100000 in
set_option maxHeartbeats 4000000 in
theorem endsW (a b : List Int) (p q : Option Addr) (c d k : Nat) (w : World) (hn : a.length ≤ 1000) (hm : b.length ≤ 1000) (hc : a.length ≤ c) (hk : 1 ≤ k) (ka : k ≤ a.length) (kb : k ≤ b.length) (hd : b.length ≤ d) (ha : SubB w p a) (hb : SubB w q b) :
    Calls Try.prog 111 #[.slice p a.length c, .slice q b.length d, .int .i64 k] w fun e w' => e = .returned (.bool (decide (a.drop (a.length - k) = b.take k))) ∧ ∃ n, w' = w.drewN n := by
  obtain ⟨lo, hlo⟩ : ∃ lo, lo = a.length - k := ⟨_, rfl⟩
  obtain ⟨ba, oa, rfl, _, _⟩ := ha.at_ (by omega)
  obtain ⟨bb, ob, rfl, _, _⟩ := hb.at_ (by omega)
  have la : (a.drop lo).length = k := by rw [List.length_drop]; omega
  have lb : (b.take k).length = k := by rw [List.length_take]; omega
  have SM : Hid (∀ n, Calls Try.prog 78 #[.slice (some ⟨ba, oa + lo, none⟩) k (c - lo), .slice (some ⟨bb, ob, none⟩) k d] (w.drewN n) fun e w' => e = .returned (.bool (decide (a.drop lo = b.take k))) ∧ ∃ m, w' = (w.drewN n).drewN m) := Lib.hid (fun n => by
    have h := sameS (a.drop lo) (b.take k) (some ⟨ba, oa + lo, none⟩) (some ⟨bb, ob, none⟩) (c - lo) d (w.drewN n) (by omega) (by omega) ((ha.drop).drewN n) ((hb.take).drewN n)
    rw [la, lb] at h
    exact h)
  rw [← hlo]
  obtain ⟨r, hr⟩ : ∃ r, r = decide (a.drop lo = b.take k) := ⟨_, rfl⟩
  rw [← hr] at SM ⊢
  obtain ⟨n, hN⟩ : ∃ n, n = a.length := ⟨_, rfl⟩
  obtain ⟨m, hM⟩ : ∃ m, m = b.length := ⟨_, rfl⟩
  rw [← hN] at hn hc ka hlo ⊢
  rw [← hM] at hm kb hd ⊢
  have i1 : (k : Int) ≤ (n : Int) := by omega
  have i2 : (k : Int) ≤ (m : Int) := by omega
  have i3 : (n : Int) - (k : Int) = (lo : Int) := by omega
  have i4 : (lo : Int) ≤ (n : Int) := by omega
  have i5 : 0 ≤ (lo : Int) := by omega
  have i6 : (n : Int) ≤ (c : Int) := by omega
  have i7 : (k : Int) ≤ (d : Int) := by omega
  have W1 : IntKind.i64.wrap ((n : Int) - (k : Int)) = (lo : Int) := by rw [i3]; exact IntWalk.i64_in _ (by omega)
  have t1 : ¬ c - lo = 0 := by omega
  have t2 : ¬ c = lo := by omega
  have t3 : n - lo = k := by omega
  have SMQ := Lib.hid (fun n => SM.out n)
  clear ha hb hr hN hM la lb i3 hlo
  go_enter Try.func111, Try.ntmps111
  go_wp2_with fail
  go_quiet ((go_at_call 78; exact quiet_draw (SMQ.out _)))
  go_wp2_with fail
  go_ret
  first | exact ⟨rfl, _, rfl⟩ | exact ⟨rfl, _, World.drewN_drewN _ _ _⟩
set_option maxRecDepth 100000 in
set_option maxHeartbeats 4000000 in
theorem overS (xs bs : List Int) (p q : Option Addr) (c d : Nat) (w : World) (ha : xs.length ≤ 8) (hb : bs.length ≤ 8) (hc : xs.length ≤ c) (hd : bs.length ≤ d) (h1 : SubB w p xs) (h2 : SubB w q bs) :
    Calls Try.prog 63 #[.slice p xs.length c, .slice q bs.length d] w (NewInts (ovL xs bs) w) := by
  have EN := Lib.hid (fun (k : Nat) w' (hk : 1 ≤ k) (ka : k ≤ xs.length) (kb : k ≤ bs.length) (hw : Below w.heap.size w w') => endsW xs bs p q c d k w' (by omega) (by omega) hc hk ka kb hd (h1.below hw) (h2.below hw))
  have OS := Lib.hid (fun i => show ovK xs bs (i + 1) = if xs.drop (xs.length - (i + 1)) = bs.take (i + 1) then ovK xs bs i ++ [(i : Int) + 1] else ovK xs bs i from rfl)
  have OL := Lib.hid (fun i => ovK_len xs bs i)
  have O0 := Lib.hid (show ovK xs bs 0 = [] from rfl)
  have OM := Lib.hid (show ovL xs bs = ovK xs bs (min xs.length bs.length) from rfl)
  rw [OM.out]
  obtain ⟨m, hm⟩ : ∃ m, m = min xs.length bs.length := ⟨_, rfl⟩
  rw [← hm]
  have hm1 : m ≤ xs.length := by omega
  have hm2 : m ≤ bs.length := by omega
  have hm3 : m = xs.length ∨ m = bs.length := by omega
  have O1 := Lib.hid (by have h := OwnV.empty w w.heap.size (Nat.le_refl _); rw [← O0.out] at h; exact h : OwnV (w.alloc (.cells #[] 3)) w.heap.size (w.alloc (.cells #[] 3)).heap.size (.slice (some ⟨w.heap.size, 0, none⟩) 0 0) (ovK xs bs 0))
  have B1 := Lib.hid ((Below.refl w.heap.size w).alloc (Nat.le_refl _) (.cells #[] 3))
  obtain ⟨i0, hi, hz0, hz1, hz2⟩ := info_parts intInfo
  obtain ⟨U, hU⟩ : ∃ U : Nat → List Int, U = ovK xs bs := ⟨_, rfl⟩
  rw [← hU] at OS OL O0 O1 ⊢
  obtain ⟨n1, hn1⟩ : ∃ n1, n1 = xs.length := ⟨_, rfl⟩
  obtain ⟨n2, hn2⟩ : ∃ n2, n2 = bs.length := ⟨_, rfl⟩
  have H1 := Lib.hid hn1
  have H2 := Lib.hid hn2
  rw [← hn1] at ha hc hm1 hm3 ⊢
  rw [← hn2] at hb hd hm2 hm3 ⊢
  clear hm h1 h2 hU hn1 hn2
  go_enter Try.func63, Try.ntmps63
  go_wp2_with fail
  go_loopg [5, 6] m (fun gg o t wr => ∃ i : Nat, i ≤ m ∧ m - i ≤ gg ∧ t = .int .i64 ((i : Int) + 1) ∧ Hid (OwnV wr w.heap.size wr.heap.size o (U i)) ∧ Hid (Below w.heap.size w wr))
  case atStart => exact ⟨0, by omega, by omega, rfl, O1, B1⟩
  case round =>
    clear O1 B1
    obtain ⟨i, hi', hgg, rfl, HO, HW⟩ := hrel
    obtain ⟨wq, rfl⟩ : ∃ wq : World, wq = wr := ⟨_, rfl⟩
    by_cases hlt : i < m
    · have t1 : (i : Int) + 1 ≤ (n1 : Int) := by omega
      have t2 : (i : Int) + 1 ≤ (n2 : Int) := by omega
      have EK := Lib.hid (EN.out (i + 1) wq (by omega) (by rw [← H1.out]; omega) (by rw [← H2.out]; omega) HW.out)
      rw [show ((i + 1 : Nat) : Int) = (i : Int) + 1 by omega, ← H1.out, ← H2.out] at EK
      have os := OS.out i
      have ol := OL.out i
      rw [← H1.out] at os
      obtain ⟨bb, hbb⟩ : ∃ bb, bb = decide (xs.drop (n1 - (i + 1)) = bs.take (i + 1)) := ⟨_, rfl⟩
      rw [← hbb] at EK
      have OSE : Hid (U (i + 1) = if bb = true then U i ++ [(i : Int) + 1] else U i) := Lib.hid (by rw [os, hbb]; by_cases h : xs.drop (n1 - (i + 1)) = bs.take (i + 1) <;> simp [h])
      clear os hbb
      cases bb
      · have OF := Lib.hid (show U (i + 1) = U i from OSE.out)
        clear OSE
        go_wp2_with fail
        refine EK.out.mono ?_
        rintro e w2 ⟨rfl, u, hu⟩
        have b2 : Below wq.heap.size wq w2 := by rw [hu]; exact below_drewN (Below.refl _ _) u
        have HW5 := Lib.hid (HW.out.trans (b2.mono HW.out.size))
        have HO5 := Lib.hid ((HO.out.below b2).wide b2.size (Nat.le_refl _))
        clear hu b2 HO HW
        go_wp2_with fail
        go_roundg (m - (i + 1))
        case rel => exact ⟨i + 1, by omega, by omega, by congr 1 <;> omega, Lib.hid (by rw [OF.out]; exact HO5.out), HW5⟩
        case measure => omega
      · have OT := Lib.hid (show U (i + 1) = U i ++ [(i : Int) + 1] from OSE.out)
        clear OSE
        go_wp2_with fail
        refine EK.out.mono ?_
        rintro e w2 ⟨rfl, u, hu⟩
        have b2 : Below wq.heap.size wq w2 := by rw [hu]; exact below_drewN (Below.refl _ _) u
        have HW5 := Lib.hid (HW.out.trans (b2.mono HW.out.size))
        have HO5 := Lib.hid ((HO.out.below b2).wide b2.size (Nat.le_refl _))
        clear hu b2 HO HW
        obtain ⟨L, hL⟩ : ∃ L, L = U i := ⟨_, rfl⟩
        rw [← hL] at HO5 OT ol
        have hown := HO5.out.row
        have hsz := HW5.out.size
        have l1 : L.length ≤ 8 := by omega
        have IX := Lib.hid (show InI64 ((i : Int) + 1) by unfold InI64; omega)
        clear hL ol
        go_wp2_with (at_builtin; refine wpList_append_own _ rfl _ _ 22 rfl w.heap.size 3 i0 (.int .i64 0) 1 8 Try.underlying22 hi hz0 hz1 hz2 rfl (by decide) _ L.length (L.map (.int .i64)) rfl (hown.alloc _) ⟨w2.heap.size, 0, none⟩ 1 1 [.int .i64 ((i : Int) + 1)] rfl rfl (cell_one_new _ _ _) (fun x hx => by simp at hx; subst hx; rfl) (by unfold maxLen; omega) (by omega) (by simp; omega) ?_; intro v' w3 hown3 hgrow3 hnil3)
        have bel3 := Lib.hid ((HW5.out.alloc HW5.out.size _).grown hgrow3 (by simp; omega) (fun q hq => by have := (hown.lt q hq).1; omega))
        have own3 := Lib.hid (HO5.out.app IX.out hown3)
        clear hown hown3 hgrow3 hnil3
        go_roundg (m - (i + 1))
        case rel => exact ⟨i + 1, by omega, by omega, by congr 1 <;> omega, Lib.hid (by rw [OT.out]; exact own3.out), bel3⟩
        case measure => omega
    · have him : i = m := by omega
      have FIN : Hid (∀ o, OwnV wq w.heap.size wq.heap.size o (U i) → NewInts (U m) w (.returned o) wq) := Lib.hid (fun o h => ⟨o, rfl, by rw [← him]; exact h, HW.out⟩)
      by_cases hq : (i : Int) + 1 ≤ (n1 : Int)
      · have t2 : ¬ (i : Int) + 1 ≤ (n2 : Int) := by omega
        clear him
        go_wp2_with fail
        go_ret
        exact FIN.out _ HO.out
      · clear him
        go_wp2_with fail
        go_ret
        exact FIN.out _ HO.out
set_option maxRecDepth 100000 in
set_option maxHeartbeats 4000000 in
theorem sumS9 (f : Nat) (xs bs : List Int) (p q : Option Addr) (c d : Nat) (w : World) (hf : f ≤ 6) (ha : xs.length ≤ 8) (hb : bs.length ≤ 8) (hc : xs.length ≤ c) (hd : bs.length ≤ d) (h1 : SubB w p xs) (h2 : SubB w q bs) :
    Calls Try.prog 66 #[.int .i64 f, .slice p xs.length c, .slice q bs.length d] w (Gives (.int .i64 (wsN f xs bs : Nat)) w) := by
  have OV := Lib.hid (overS xs bs p q c d w ha hb hc hd h1 h2)
  obtain ⟨LB, LN⟩ := ovL_bd xs bs ha
  have WB := Lib.hid (fun j => wsK_bd (f := f) hf LB j)
  have WS := Lib.hid (fun j => show wsK f (ovL xs bs) (j + 1) = wsK f (ovL xs bs) j + f ^ ((ovL xs bs).getD j 0).toNat from rfl)
  have W0 := Lib.hid (show wsK f (ovL xs bs) 0 = 0 from rfl)
  have WE := Lib.hid (show wsN f xs bs = wsK f (ovL xs bs) (ovL xs bs).length from rfl)
  have LM := Lib.hid (fun j (hj : j < (ovL xs bs).length) => LB _ (getD_memF hj))
  have PW : Hid (∀ k : Nat, k ≤ 8 → ∀ w, Calls Try.prog 105 #[.int .i64 f, .int .i64 k] w (QR (.int .i64 (f ^ k : Nat)) w)) := Lib.hid (fun k hk w => powS f k w (by omega) (fun j hj => by have := pw68 (f := f) (k := j) hf (by omega); omega) (by omega))
  have PB := Lib.hid (fun k (hk : k ≤ 8) => pw68 (f := f) (k := k) hf hk)
  rw [WE.out]
  obtain ⟨L, hL⟩ : ∃ L, L = ovL xs bs := ⟨_, rfl⟩
  rw [← hL] at OV LN WB WS W0 LM ⊢
  obtain ⟨n, hn⟩ : ∃ n, n = L.length := ⟨_, rfl⟩
  have HN := Lib.hid hn
  rw [← hn] at LN LM ⊢
  obtain ⟨K, hK⟩ : ∃ K : Nat → Nat, K = wsK f L := ⟨_, rfl⟩
  rw [← hK] at WB WS W0 ⊢
  clear WE LB hL hn hK h1 h2
  go_enter Try.func66, Try.ntmps66
  go_wp2_with fail
  refine OV.out.mono ?_
  rintro e w1 ⟨v1, rfl, o1, b1⟩
  have HB1 := Lib.hid b1
  obtain ⟨q, cq, rfl, lq, mq, zq, iq⟩ := o1.intsV
  have E1 := Lib.hid iq
  rw [← HN.out] at lq mq ⊢
  clear b1 o1 zq iq
  go_wp2_with fail
  go_loopg [7, 9] n (fun gg s t wr => ∃ j : Nat, j ≤ n ∧ n - j ≤ gg ∧ s = .int .i64 (K j : Nat) ∧ t = .int .i64 j ∧ w1 = wr)
  case atStart => exact ⟨0, by omega, by omega, by rw [W0.out]; rfl, rfl, rfl⟩
  case round =>
    obtain ⟨j, hj, hgg, rfl, rfl, rfl⟩ := hrel
    by_cases hlt : j < n
    · obtain ⟨b, off, rfl, hb', hc⟩ := E1.out.get (by rw [← HN.out]; exact hlt : j < L.length)
      have i0 : (0 : Int) ≤ (j : Int) := by omega
      have i1 : (j : Int) < (n : Int) := by omega
      have lm := LM.out j hlt
      have ws := WS.out j
      have wb1 := WB.out j
      obtain ⟨z, hz⟩ : ∃ z, z = L.getD j 0 := ⟨_, rfl⟩
      rw [← hz] at hc lm ws
      obtain ⟨k, rfl⟩ : ∃ k : Nat, z = (k : Int) := ⟨z.toNat, by omega⟩
      rw [Int.toNat_natCast] at ws
      have PK := Lib.hid (fun w => PW.out k (by omega) w)
      have pb := PB.out k (by omega)
      obtain ⟨x, hx⟩ : ∃ x, x = f ^ k := ⟨_, rfl⟩
      rw [← hx] at PK pb ws
      obtain ⟨s, hs⟩ : ∃ s, s = K j := ⟨_, rfl⟩
      rw [← hs] at ws wb1 ⊢
      have SE := Lib.hid (show ((s : Nat) : Int) + ((x : Nat) : Int) = (K (j + 1) : Nat) by omega)
      have sb : s ≤ 13436928 := by omega
      clear hz ws hx hs wb1
      go_wp2_with fail
      refine (PK.out _).mono ?_
      rintro e w5 ⟨rfl, rfl⟩
      go_wp2_with fail
      go_roundg (n - (j + 1))
      case rel => exact ⟨j + 1, by omega, by omega, by rw [SE.out], by go_num, rfl⟩
      case measure => omega
    · obtain rfl : j = n := by omega
      have i1 : ¬ (j : Int) < (j : Int) := by omega
      go_wp2_with fail
      go_ret
      exact ⟨rfl, HB1.out⟩
set_option maxRecDepth 100000 in
set_option maxHeartbeats 4000000 in
theorem waitS (f : Int) (zs : List Int) (v : Value) (w : World) (hf : InI64 f) (hn : zs.length ≤ 1048576) (h : IntsV w w.heap.size v zs) :
    Calls Try.prog 18 #[.int .i64 f, v] w (Gives (.tuple #[.int .i64 (wwV f zs), .bool (wdOk f zs)]) w) := by
  have WC := Lib.hid (wordS f zs v w.heap.size w hf hn h)
  obtain ⟨qq, cq, rfl, lq, SB0⟩ := SubB.intsV h
  clear h
  cases hv : wdOk f zs
  · rw [hv] at WC
    rw [show wwV f zs = 0 from if_neg (by rw [hv]; decide)]
    clear hv
    go_enter Try.func18, Try.ntmps18
    go_wp2_with fail
    refine WC.out.mono ?_
    rintro e w1 ⟨rfl, rfl⟩
    go_wp2_with fail
    go_ret2
    exact ⟨rfl, Below.refl _ _⟩
  · rw [hv] at WC
    obtain ⟨⟨f1, f2⟩, ⟨l1, l2⟩, hfb⟩ := wd_bd hv
    obtain ⟨F, rfl⟩ : ∃ F : Nat, f = F := ⟨f.toNat, by omega⟩
    have WN := Lib.hid (sumS9 F zs zs qq qq cq cq w (by omega) (by omega) (by omega) lq lq SB0 SB0)
    rw [show wwV (F : Int) zs = (wsN F zs zs : Nat) from by unfold wwV; rw [if_pos hv, Int.toNat_natCast]]
    obtain ⟨r, hr⟩ : ∃ r : Int, r = (wsN F zs zs : Nat) := ⟨_, rfl⟩
    rw [← hr] at WN ⊢
    clear hv hfb hr SB0
    go_enter Try.func18, Try.ntmps18
    go_wp2_with fail
    refine WC.out.mono ?_
    rintro e w1 ⟨rfl, rfl⟩
    go_wp2_with fail
    refine WN.out.mono ?_
    rintro e w2 ⟨rfl, b2⟩
    have HB2 := Lib.hid b2
    clear b2
    go_wp2_with fail
    go_ret2
    exact ⟨rfl, HB2.out⟩
end Go.Proofs.Ytagoodkaobcjaab
namespace Go.Proofs.Ytagoodkaobcjaab
open Go.RowKit
set_option linter.unusedVariables false
theorem newInts_emptyO {w w1 : World} (hb : Below w.heap.size w w1) {g : Nat} (hg : g = w1.heap.size) : NewIntsB [] false w (.returned (.tuple #[.slice (some ⟨g, 0, none⟩) 0 0, .bool false])) (w1.alloc (.cells #[] 3)) := by
  subst hg; exact newInts_empty hb
def ovV (f : Int) (xs bs : List Int) : List Int := if (wdOk f xs && wdOk f bs) = true then ovL xs bs else []
set_option maxRecDepth 100000 in
set_option maxHeartbeats 8000000 in
theorem ovfC (f : Int) (xs bs : List Int) (v u : Value) (w : World) (hn : xs.length ≤ 1048576) (hm : bs.length ≤ 1048576) (h : IntsV w w.heap.size v xs) (k : IntsV w w.heap.size u bs) :
    Calls Try.prog 14 #[.int .i64 f, v, u] w (NewIntsB (ovV f xs bs) (wdOk f xs && wdOk f bs) w) := by
  have WC := Lib.hid (wordsC f xs bs v u w hn hm h k)
  obtain ⟨qq, cq, rfl, _⟩ := h
  obtain ⟨qr, cr, rfl, _⟩ := k
  obtain ⟨zl, z0, z1, z2, z3, z4, z5, z6, z7, SAL, SA⟩ := sh_form (wdZ f xs)
  obtain ⟨yl, y0, y1, y2, y3, y4, y5, y6, y7, SBL, SB⟩ := sh_form (wdZ f bs)
  unfold shV at WC
  rw [SA, SB] at WC
  cases hv : (wdOk f xs && wdOk f bs)
  · rw [hv] at WC
    rw [show ovV f xs bs = [] from if_neg (by rw [hv]; decide)]
    clear hv SA SAL SB SBL
    go_enter Try.func14, Try.ntmps14
    go_wp2_with fail
    refine WC.out.mono ?_
    rintro e w1 ⟨rfl, b1⟩
    have HB1 := Lib.hid b1
    clear b1
    go_wp2_with fail
    go_ret2
    exact newInts_emptyO ((HB1.out.alloc HB1.out.size _).alloc (Nat.le_trans HB1.out.size (by simp)) _) (by simp)
  · rw [hv] at WC
    rw [show ovV f xs bs = ovL xs bs from if_pos hv]
    obtain ⟨h1, h2⟩ := Bool.and_eq_true_iff.1 hv
    obtain ⟨_, ⟨l1, l2⟩, _⟩ := wd_bd h1
    obtain ⟨_, ⟨m1, m2⟩, _⟩ := wd_bd h2
    have IX := wd_in f xs
    have IY := wd_in f bs
    rw [show wdZ f xs = xs from if_pos h1] at SA IX
    rw [show wdZ f bs = bs from if_pos h2] at SB IY
    have OC : Hid (∀ w, Calls Try.prog 65 #[.agg #[.int .i64 zl, .int .i64 z0, .int .i64 z1, .int .i64 z2, .int .i64 z3, .int .i64 z4, .int .i64 z5, .int .i64 z6, .int .i64 z7], .agg #[.int .i64 yl, .int .i64 y0, .int .i64 y1, .int .i64 y2, .int .i64 y3, .int .i64 y4, .int .i64 y5, .int .i64 y6, .int .i64 y7]] w (NewInts (ovL xs bs) w)) := Lib.hid (fun w => by
      have h := overC xs bs w (by omega) (by omega) IX IY
      rw [show shV xs = .agg (shA xs) from rfl, show shV bs = .agg (shA bs) from rfl, SA, SB] at h
      exact h)
    clear hv h1 h2 SA SAL SB SBL IX IY l1 l2 m1 m2
    go_enter Try.func14, Try.ntmps14
    go_wp2_with fail
    refine WC.out.mono ?_
    rintro e w1 ⟨rfl, b1⟩
    have HB1 := Lib.hid ((b1.alloc b1.size (.cells #[.int .i64 zl, .int .i64 z0, .int .i64 z1, .int .i64 z2, .int .i64 z3, .int .i64 z4, .int .i64 z5, .int .i64 z6, .int .i64 z7] 71)).alloc (Nat.le_trans b1.size (by simp)) (.cells #[.int .i64 yl, .int .i64 y0, .int .i64 y1, .int .i64 y2, .int .i64 y3, .int .i64 y4, .int .i64 y5, .int .i64 y6, .int .i64 y7] 71))
    obtain ⟨w3, hw3⟩ : ∃ w3, w3 = (w1.alloc (.cells #[.int .i64 zl, .int .i64 z0, .int .i64 z1, .int .i64 z2, .int .i64 z3, .int .i64 z4, .int .i64 z5, .int .i64 z6, .int .i64 z7] 71)).alloc (.cells #[.int .i64 yl, .int .i64 y0, .int .i64 y1, .int .i64 y2, .int .i64 y3, .int .i64 y4, .int .i64 y5, .int .i64 y6, .int .i64 y7] 71) := ⟨_, rfl⟩
    have HS : w3.heap[w1.heap.size]? = some (.cells #[.int .i64 zl, .int .i64 z0, .int .i64 z1, .int .i64 z2, .int .i64 z3, .int .i64 z4, .int .i64 z5, .int .i64 z6, .int .i64 z7] 71 (0, 0)) := by rw [hw3]; exact ((((Below.refl _ _).alloc (Nat.le_refl _) (.cells #[.int .i64 yl, .int .i64 y0, .int .i64 y1, .int .i64 y2, .int .i64 y3, .int .i64 y4, .int .i64 y5, .int .i64 y6, .int .i64 y7] 71)).block w1.heap.size (by simp)).trans (alloc_heap w1 (.cells #[.int .i64 zl, .int .i64 z0, .int .i64 z1, .int .i64 z2, .int .i64 z3, .int .i64 z4, .int .i64 z5, .int .i64 z6, .int .i64 z7] 71)))
    have HT : w3.heap[w1.heap.size + 1]? = some (.cells #[.int .i64 yl, .int .i64 y0, .int .i64 y1, .int .i64 y2, .int .i64 y3, .int .i64 y4, .int .i64 y5, .int .i64 y6, .int .i64 y7] 71 (0, 0)) := by rw [hw3]; have := alloc_heap (w1.alloc (.cells #[.int .i64 zl, .int .i64 z0, .int .i64 z1, .int .i64 z2, .int .i64 z3, .int .i64 z4, .int .i64 z5, .int .i64 z6, .int .i64 z7] 71)) (.cells #[.int .i64 yl, .int .i64 y0, .int .i64 y1, .int .i64 y2, .int .i64 y3, .int .i64 y4, .int .i64 y5, .int .i64 y6, .int .i64 y7] 71); simpa using this
    obtain ⟨pc0, pc1, pc2, pc3, pc4, pc5, pc6, pc7, pc8⟩ := nine_cells HS
    obtain ⟨qc0, qc1, qc2, qc3, qc4, qc5, qc6, qc7, qc8⟩ := nine_cells HT
    rw [hw3] at pc0 pc1 pc2 pc3 pc4 pc5 pc6 pc7 pc8 qc0 qc1 qc2 qc3 qc4 qc5 qc6 qc7 qc8
    clear b1 HS HT hw3
    go_wp2_with fail
    refine (OC.out _).mono ?_
    rintro e w4 ⟨v1, rfl, o1, b1⟩
    have O1 := Lib.hid o1
    have B1 := Lib.hid b1
    clear b1 o1 pc0 pc1 pc2 pc3 pc4 pc5 pc6 pc7 pc8 qc0 qc1 qc2 qc3 qc4 qc5 qc6 qc7 qc8
    go_wp2_with fail
    go_ret2
    exact newInts_back HB1.out O1.out B1.out
set_option maxRecDepth 100000 in
set_option maxHeartbeats 8000000 in
theorem ovfS (f : Int) (xs bs : List Int) (v u : Value) (w : World) (hf : InI64 f) (hn : xs.length ≤ 1048576) (hm : bs.length ≤ 1048576) (h : IntsV w w.heap.size v xs) (k : IntsV w w.heap.size u bs) :
    Calls Try.prog 12 #[.int .i64 f, v, u] w (NewIntsB (ovV f xs bs) (wdOk f xs && wdOk f bs) w) := by
  have W1 := Lib.hid (wordS f xs v w.heap.size w hf hn h)
  have W2 := Lib.hid (wordS f bs u w.heap.size w hf hm k)
  obtain ⟨qq, cq, rfl, lq, SB0⟩ := SubB.intsV h
  obtain ⟨qr, cr, rfl, lr, SB1⟩ := SubB.intsV k
  clear h k
  cases h1 : wdOk f xs
  · rw [h1] at W1
    rw [show ovV f xs bs = [] from if_neg (by rw [h1, Bool.false_and]; decide), Bool.false_and]
    clear h1 SB0 SB1
    go_enter Try.func12, Try.ntmps12
    go_wp2_with fail
    refine W1.out.mono ?_
    rintro e w1 ⟨rfl, rfl⟩
    go_wp2_with fail
    go_ret2
    exact newInts_empty (Below.refl _ _)
  · rw [h1] at W1
    cases h2 : wdOk f bs
    · rw [h2] at W2
      rw [show ovV f xs bs = [] from if_neg (by rw [h1, h2]; decide), Bool.true_and]
      clear h1 h2 SB0 SB1
      go_enter Try.func12, Try.ntmps12
      go_wp2_with fail
      refine W1.out.mono ?_
      rintro e w1 ⟨rfl, rfl⟩
      go_wp2_with fail
      refine W2.out.mono ?_
      rintro e w1 ⟨rfl, rfl⟩
      go_wp2_with fail
      go_ret2
      exact newInts_empty (Below.refl _ _)
    · rw [h2] at W2
      rw [show ovV f xs bs = ovL xs bs from if_pos (by rw [h1, h2]; rfl), Bool.true_and]
      obtain ⟨_, ⟨l1, l2⟩, _⟩ := wd_bd h1
      obtain ⟨_, ⟨m1, m2⟩, _⟩ := wd_bd h2
      have OS := Lib.hid (overS xs bs qq qr cq cr w (by omega) (by omega) lq lr SB0 SB1)
      clear h1 h2 SB0 SB1 l1 l2 m1 m2
      go_enter Try.func12, Try.ntmps12
      go_wp2_with fail
      refine W1.out.mono ?_
      rintro e w1 ⟨rfl, rfl⟩
      go_wp2_with fail
      refine W2.out.mono ?_
      rintro e w1 ⟨rfl, rfl⟩
      go_wp2_with fail
      refine OS.out.mono ?_
      rintro e w4 ⟨v1, rfl, o1, b1⟩
      have O1 := Lib.hid o1
      have B1 := Lib.hid b1
      clear b1 o1
      go_wp2_with fail
      go_ret2
      exact newInts_back (Below.refl _ _) O1.out B1.out
theorem ovV_len (f : Int) (xs bs : List Int) : (ovV f xs bs).length ≤ 6 := by
  unfold ovV
  split
  · rename_i h
    obtain ⟨h1, h2⟩ := Bool.and_eq_true_iff.1 h
    obtain ⟨_, ⟨l1, l2⟩, _⟩ := wd_bd h1
    have := ovK_len xs bs (min xs.length bs.length)
    unfold ovL
    omega
  · simp
end Go.Proofs.Ytagoodkaobcjaab
namespace Go.Proofs.Ytagoodkaobcjaab
open Go.RowKit
set_option linter.unusedVariables false
theorem wsK_congr (f : Nat) {L M : List Int} : ∀ j, (∀ i, i < j → L.getD i 0 = M.getD i 0) → wsK f L j = wsK f M j
  | 0, _ => rfl
  | j + 1, h => by
      unfold wsK
      rw [wsK_congr f j (fun i hi => h i (by omega)), h j (by omega)]
def wsS (f : Nat) (a b : List Int) (k : Nat) : Nat := wsK f (ovK a b k) (ovK a b k).length
theorem wsS_yes {f : Nat} {a b : List Int} {k : Nat} (h : a.drop (a.length - (k + 1)) = b.take (k + 1)) : wsS f a b (k + 1) = wsS f a b k + f ^ (k + 1) := by
  unfold wsS
  rw [show ovK a b (k + 1) = ovK a b k ++ [(k : Int) + 1] from if_pos h, List.length_append]
  show wsK f (ovK a b k ++ [(k : Int) + 1]) (ovK a b k).length + f ^ ((ovK a b k ++ [(k : Int) + 1]).getD (ovK a b k).length 0).toNat = _
  have e1 : wsK f (ovK a b k ++ [(k : Int) + 1]) (ovK a b k).length = wsK f (ovK a b k) (ovK a b k).length := wsK_congr f _ (fun i hi => by
    rw [List.getD_eq_getElem?_getD, List.getD_eq_getElem?_getD, List.getElem?_append_left hi])
  have e2 : (ovK a b k ++ [(k : Int) + 1]).getD (ovK a b k).length 0 = (k : Int) + 1 := by
    rw [List.getD_eq_getElem?_getD, List.getElem?_append_right (Nat.le_refl _)]; simp
  rw [e1, e2, show ((k : Int) + 1).toNat = k + 1 by omega]
theorem wsS_no {f : Nat} {a b : List Int} {k : Nat} (h : ¬ a.drop (a.length - (k + 1)) = b.take (k + 1)) : wsS f a b (k + 1) = wsS f a b k := by
  unfold wsS
  rw [show ovK a b (k + 1) = ovK a b k from if_neg h]
theorem wsS_lt {f : Nat} (hf : 2 ≤ f) (a b : List Int) : ∀ k, wsS f a b k < f ^ (k + 1)
  | 0 => by show 0 < f ^ 1; rw [Nat.pow_one]; omega
  | k + 1 => by
      have h := wsS_lt hf a b k
      have hp : 2 * f ^ (k + 1) ≤ f ^ (k + 1 + 1) := by rw [Nat.pow_succ f (k + 1), Nat.mul_comm]; exact Nat.mul_le_mul_left _ hf
      by_cases c : a.drop (a.length - (k + 1)) = b.take (k + 1)
      · rw [wsS_yes c]; omega
      · rw [wsS_no c]; omega
theorem wsN_lt {f : Nat} (hf : 2 ≤ f) {a b : List Int} (hl : a.length = b.length) (h1 : 1 ≤ a.length) (hne : a ≠ b) : wsN f a b < f ^ a.length := by
  show wsS f a b (min a.length b.length) < _
  rw [show min a.length b.length = a.length - 1 + 1 by omega]
  rw [wsS_no (by rw [show a.length - (a.length - 1 + 1) = 0 by omega, List.drop_zero, List.take_of_length_le (by omega)]; exact hne)]
  have := wsS_lt hf a b (a.length - 1)
  rw [show a.length - 1 + 1 = a.length by omega] at this
  exact this
theorem wsN_ge {f : Nat} {a : List Int} (h1 : 1 ≤ a.length) : f ^ a.length ≤ wsN f a a := by
  show _ ≤ wsS f a a (min a.length a.length)
  rw [show min a.length a.length = a.length - 1 + 1 by omega]
  rw [wsS_yes (by rw [show a.length - (a.length - 1 + 1) = 0 by omega, List.drop_zero, List.take_of_length_le (by omega)])]
  rw [show a.length - 1 + 1 = a.length by omega]
  omega
theorem fac_two {f : Int} {a b : List Int} (hf : 1 ≤ f) (ha : facB f a = true) (hb : facB f b = true) (hl : a.length = b.length) (hne : a ≠ b) : 2 ≤ f := by
  rcases Int.lt_or_le f 2 with h | h
  · exfalso
    apply hne
    refine same_ext hl (fun i hi => ?_)
    have h1 := fac_at ha hi
    have h2 := fac_at hb (show i < b.length by omega)
    omega
  · exact h
theorem wsN_bd {f : Nat} (hf : f ≤ 6) (a b : List Int) (ha : a.length ≤ 8) : wsN f a b ≤ 13436928 := by
  obtain ⟨h1, h2⟩ := ovL_bd a b ha
  have h3 := wsK_bd hf h1 (ovL a b).length
  have h4 : (ovL a b).length * 1679616 ≤ 8 * 1679616 := Nat.mul_le_mul_right _ h2
  unfold wsN
  omega
def woOk (f : Int) (a b : List Int) : Bool := wdOk f a && wdOk f b && decide (a.length = b.length) && !decide (a = b)
/-- What the team of b has more, and that of a. -/
def woX (f : Nat) (a b : List Int) : Int := (wsN f b b : Int) - (wsN f b a : Int)
def woV (f : Int) (a b : List Int) : Value :=
  if woOk f a b = true then keptV (cutN (woX f.toNat a b) (woX f.toNat a b + woX f.toNat b a)) (cutD (woX f.toNat a b) (woX f.toNat a b + woX f.toNat b a)) else .tuple #[.agg #[.int .i64 0, .int .i64 0], .bool false]
theorem woV_form (f : Int) (a b : List Int) : ∃ p q ok, woV f a b = .tuple #[.agg #[.int .i64 p, .int .i64 q], .bool ok] := by
  unfold woV
  split
  · exact keptV_form _ _
  · exact ⟨_, _, _, rfl⟩
theorem wo_pos {f : Int} {a b : List Int} (h1 : wdOk f a = true) (h2 : wdOk f b = true) (hl : a.length = b.length) (hne : a ≠ b) :
    (0 < woX f.toNat a b ∧ woX f.toNat a b ≤ 13436928) ∧ 0 < woX f.toNat b a ∧ woX f.toNat b a ≤ 13436928 := by
  obtain ⟨⟨f1, f2⟩, ⟨l1, l2⟩, fa⟩ := wd_bd h1
  obtain ⟨_, ⟨m1, m2⟩, fb⟩ := wd_bd h2
  have f3 := fac_two f1 fa fb hl hne
  have hF : 2 ≤ f.toNat := by omega
  have hF6 : f.toNat ≤ 6 := by omega
  have a1 := wsN_lt hF hl l1 hne
  have a2 := wsN_lt hF hl.symm m1 (Ne.symm hne)
  have a3 := wsN_ge (f := f.toNat) l1
  have a4 := wsN_ge (f := f.toNat) m1
  have a5 := wsN_bd hF6 a a (by omega)
  have a6 := wsN_bd hF6 b b (by omega)
  unfold woX
  omega
end Go.Proofs.Ytagoodkaobcjaab
namespace Go.Proofs.Ytagoodkaobcjaab
open Go.RowKit
set_option linter.unusedVariables false
theorem arLits (a0 a1 a2 a3 a4 a5 a6 a7 : Int) (h0 : InI64 a0) (h1 : InI64 a1) (h2 : InI64 a2) (h3 : InI64 a3) (h4 : InI64 a4) (h5 : InI64 a5) (h6 : InI64 a6) (h7 : InI64 a7) : Try.prog.keyLits 2 69 [.int .i64 a0, .int .i64 a1, .int .i64 a2, .int .i64 a3, .int .i64 a4, .int .i64 a5, .int .i64 a6, .int .i64 a7] = some [.int .i64 a0, .int .i64 a1, .int .i64 a2, .int .i64 a3, .int .i64 a4, .int .i64 a5, .int .i64 a6, .int .i64 a7] := by
  have w0 := wf64s h0
  have w1 := wf64s h1
  have w2 := wf64s h2
  have w3 := wf64s h3
  have w4 := wf64s h4
  have w5 := wf64s h5
  have w6 := wf64s h6
  have w7 := wf64s h7
  simp [Program.keyLits, Try.underlying69, Try.underlying3, arCells, inCells, List.range, List.range.loop, w0, w1, w2, w3, w4, w5, w6, w7]
theorem eqArLits (a0 a1 a2 a3 a4 a5 a6 a7 b0 b1 b2 b3 b4 b5 b6 b7 : Int) (h0 : InI64 a0) (h1 : InI64 a1) (h2 : InI64 a2) (h3 : InI64 a3) (h4 : InI64 a4) (h5 : InI64 a5) (h6 : InI64 a6) (h7 : InI64 a7) (k0 : InI64 b0) (k1 : InI64 b1) (k2 : InI64 b2) (k3 : InI64 b3) (k4 : InI64 b4) (k5 : InI64 b5) (k6 : InI64 b6) (k7 : InI64 b7) (w : World) :
    ∃ r : Bool, (Op.equalIn 9999 69 (.agg #[.int .i64 a0, .int .i64 a1, .int .i64 a2, .int .i64 a3, .int .i64 a4, .int .i64 a5, .int .i64 a6, .int .i64 a7]) (.agg #[.int .i64 b0, .int .i64 b1, .int .i64 b2, .int .i64 b3, .int .i64 b4, .int .i64 b5, .int .i64 b6, .int .i64 b7])).run Try.prog w = .ok r w ∧ (r = true ↔ ([.int .i64 a0, .int .i64 a1, .int .i64 a2, .int .i64 a3, .int .i64 a4, .int .i64 a5, .int .i64 a6, .int .i64 a7] : List Lit) = [.int .i64 b0, .int .i64 b1, .int .i64 b2, .int .i64 b3, .int .i64 b4, .int .i64 b5, .int .i64 b6, .int .i64 b7]) :=
  run_equalIn_deep 9997 2 69 (by kernel_rfl) w 2 2 _ _ _ _ (by simp [Value.formed, Try.underlying69, arCells]) (by simp [Value.formed, Try.underlying69, arCells]) (arLits a0 a1 a2 a3 a4 a5 a6 a7 h0 h1 h2 h3 h4 h5 h6 h7) (arLits b0 b1 b2 b3 b4 b5 b6 b7 k0 k1 k2 k3 k4 k5 k6 k7)
theorem eqAr (a b : List Int) (hl : a.length = b.length) (ha : a.length ≤ 8) (ia : ∀ z ∈ a, InI64 z) (ib : ∀ z ∈ b, InI64 z) (w : World) :
    (Op.equalIn 9999 69 (.agg #[.int .i64 (a.getD 0 0), .int .i64 (a.getD 1 0), .int .i64 (a.getD 2 0), .int .i64 (a.getD 3 0), .int .i64 (a.getD 4 0), .int .i64 (a.getD 5 0), .int .i64 (a.getD 6 0), .int .i64 (a.getD 7 0)]) (.agg #[.int .i64 (b.getD 0 0), .int .i64 (b.getD 1 0), .int .i64 (b.getD 2 0), .int .i64 (b.getD 3 0), .int .i64 (b.getD 4 0), .int .i64 (b.getD 5 0), .int .i64 (b.getD 6 0), .int .i64 (b.getD 7 0)])).run Try.prog w = .ok (decide (a = b)) w := by
  obtain ⟨r, hr, hiff⟩ := eqArLits (a.getD 0 0) (a.getD 1 0) (a.getD 2 0) (a.getD 3 0) (a.getD 4 0) (a.getD 5 0) (a.getD 6 0) (a.getD 7 0) (b.getD 0 0) (b.getD 1 0) (b.getD 2 0) (b.getD 3 0) (b.getD 4 0) (b.getD 5 0) (b.getD 6 0) (b.getD 7 0) (in64_getD ia 0) (in64_getD ia 1) (in64_getD ia 2) (in64_getD ia 3) (in64_getD ia 4) (in64_getD ia 5) (in64_getD ia 6) (in64_getD ia 7) (in64_getD ib 0) (in64_getD ib 1) (in64_getD ib 2) (in64_getD ib 3) (in64_getD ib 4) (in64_getD ib 5) (in64_getD ib 6) (in64_getD ib 7) w
  have e : r = decide (a = b) := by
    rw [Bool.eq_iff_iff, hiff, decide_eq_true_iff]
    constructor
    · intro h
      refine sh_inj ha (by omega) ?_
      simp only [List.cons.injEq, Lit.int.injEq, true_and, and_true] at h
      simp only [shL, List.cons.injEq, and_true]
      exact ⟨by rw [hl], h⟩
    · intro h; rw [h]
  rw [← e]
  exact hr
set_option maxRecDepth 100000 in
set_option maxHeartbeats 8000000 in
theorem woC (f : Int) (xs bs : List Int) (v u : Value) (w : World) (hn : xs.length ≤ 1048576) (hm : bs.length ≤ 1048576) (h : IntsV w w.heap.size v xs) (k : IntsV w w.heap.size u bs) :
    Calls Try.prog 25 #[.int .i64 f, v, u] w (Gives (woV f xs bs) w) := by
  have B0 := Lib.hid (bl_self w (.cells #[.int .i64 0, .int .i64 0] 35))
  have RC := Lib.hid (fun w3 b => rs_cells (w := w) (w3 := w3) b)
  have RF := Lib.hid (fun w3 x y b => rs_fin (w := w) (w3 := w3) (x := x) (y := y) b)
  have UPB := Lib.hid (fun w3 (b : Below (w.alloc (.cells #[.int .i64 0, .int .i64 0] 35)).heap.size (w.alloc (.cells #[.int .i64 0, .int .i64 0] 35)) w3) => rs_same b)
  obtain ⟨wa, hwa⟩ : ∃ wa, wa = w.alloc (.cells #[.int .i64 0, .int .i64 0] 35) := ⟨_, rfl⟩
  rw [← hwa] at B0 RC RF UPB
  have WC := Lib.hid (wordsC f xs bs v u wa hn hm ((h.below (UPB.out _ B0.out)).more (UPB.out _ B0.out).size) ((k.below (UPB.out _ B0.out)).more (UPB.out _ B0.out).size))
  obtain ⟨qq, cq, rfl, _⟩ := h
  obtain ⟨qr, cr, rfl, _⟩ := k
  obtain ⟨zl, z0, z1, z2, z3, z4, z5, z6, z7, SAL, SA⟩ := sh_form (wdZ f xs)
  obtain ⟨yl, y0, y1, y2, y3, y4, y5, y6, y7, SBL, SB⟩ := sh_form (wdZ f bs)
  unfold shV at WC
  rw [SA, SB] at WC
  cases hv : (wdOk f xs && wdOk f bs)
  · rw [hv] at WC
    rw [show woV f xs bs = .tuple #[.agg #[.int .i64 0, .int .i64 0], .bool false] from if_neg (by unfold woOk; rw [hv]; simp)]
    clear hv SA SAL SB SBL
    go_enter Try.func25, Try.ntmps25
    go_wp2_with fail
    rw [← hwa]
    clear hwa
    refine WC.out.mono ?_
    rintro e w1 ⟨rfl, b1⟩
    have BB := Lib.hid ((bl_then B0.out b1).alloc (bl_then B0.out b1).size (.cells #[.int .i64 zl, .int .i64 z0, .int .i64 z1, .int .i64 z2, .int .i64 z3, .int .i64 z4, .int .i64 z5, .int .i64 z6, .int .i64 z7] 71) |>.alloc (Nat.le_trans (bl_then B0.out b1).size (by simp)) (.cells #[.int .i64 yl, .int .i64 y0, .int .i64 y1, .int .i64 y2, .int .i64 y3, .int .i64 y4, .int .i64 y5, .int .i64 y6, .int .i64 y7] 71))
    obtain ⟨w3, hw3⟩ : ∃ w3, w3 = (w1.alloc (.cells #[.int .i64 zl, .int .i64 z0, .int .i64 z1, .int .i64 z2, .int .i64 z3, .int .i64 z4, .int .i64 z5, .int .i64 z6, .int .i64 z7] 71)).alloc (.cells #[.int .i64 yl, .int .i64 y0, .int .i64 y1, .int .i64 y2, .int .i64 y3, .int .i64 y4, .int .i64 y5, .int .i64 y6, .int .i64 y7] 71) := ⟨_, rfl⟩
    have HS : w3.heap[w1.heap.size]? = some (.cells #[.int .i64 zl, .int .i64 z0, .int .i64 z1, .int .i64 z2, .int .i64 z3, .int .i64 z4, .int .i64 z5, .int .i64 z6, .int .i64 z7] 71 (0, 0)) := by rw [hw3]; exact ((((Below.refl _ _).alloc (Nat.le_refl _) (.cells #[.int .i64 yl, .int .i64 y0, .int .i64 y1, .int .i64 y2, .int .i64 y3, .int .i64 y4, .int .i64 y5, .int .i64 y6, .int .i64 y7] 71)).block w1.heap.size (by simp)).trans (alloc_heap w1 (.cells #[.int .i64 zl, .int .i64 z0, .int .i64 z1, .int .i64 z2, .int .i64 z3, .int .i64 z4, .int .i64 z5, .int .i64 z6, .int .i64 z7] 71)))
    have HT : w3.heap[w1.heap.size + 1]? = some (.cells #[.int .i64 yl, .int .i64 y0, .int .i64 y1, .int .i64 y2, .int .i64 y3, .int .i64 y4, .int .i64 y5, .int .i64 y6, .int .i64 y7] 71 (0, 0)) := by rw [hw3]; have := alloc_heap (w1.alloc (.cells #[.int .i64 zl, .int .i64 z0, .int .i64 z1, .int .i64 z2, .int .i64 z3, .int .i64 z4, .int .i64 z5, .int .i64 z6, .int .i64 z7] 71)) (.cells #[.int .i64 yl, .int .i64 y0, .int .i64 y1, .int .i64 y2, .int .i64 y3, .int .i64 y4, .int .i64 y5, .int .i64 y6, .int .i64 y7] 71); simpa using this
    have SZ := Lib.hid (show w3.heap.size = w1.heap.size + 2 by rw [hw3]; simp)
    rw [← hw3] at BB
    rw [hw3] at BB
    clear HS HT SZ hw3 b1
    obtain ⟨⟨x0, y0'⟩, x1, y1'⟩ := RC.out _ BB.out
    go_wp2_with fail
    refine bodyPost_ret (v := .tuple #[.agg #[.int .i64 0, .int .i64 0], .bool false]) (by simp [results, Try.results25, go_sem, x0, x1]) rfl ⟨rfl, ?_⟩
    first | exact RF.out _ _ _ BB.out | exact UPB.out _ BB.out
  · rw [hv] at WC
    obtain ⟨h1, h2⟩ := Bool.and_eq_true_iff.1 hv
    have IX := wd_in f xs
    have IY := wd_in f bs
    rw [show wdZ f xs = xs from if_pos h1] at SA SAL IX
    rw [show wdZ f bs = bs from if_pos h2] at SB SBL IY
    by_cases hl : xs.length = bs.length
    · have el : zl = yl := by omega
      obtain ⟨⟨f1, f2⟩, ⟨l1, l2⟩, _⟩ := wd_bd h1
      obtain ⟨_, ⟨m1, m2⟩, _⟩ := wd_bd h2
      have EQ := Lib.hid (fun w => eqAr xs bs hl (by omega) IX IY w)
      rw [show (.agg #[.int .i64 (xs.getD 0 0), .int .i64 (xs.getD 1 0), .int .i64 (xs.getD 2 0), .int .i64 (xs.getD 3 0), .int .i64 (xs.getD 4 0), .int .i64 (xs.getD 5 0), .int .i64 (xs.getD 6 0), .int .i64 (xs.getD 7 0)] : Value) = .agg ((shA xs).extract 1 9) from rfl, show (.agg #[.int .i64 (bs.getD 0 0), .int .i64 (bs.getD 1 0), .int .i64 (bs.getD 2 0), .int .i64 (bs.getD 3 0), .int .i64 (bs.getD 4 0), .int .i64 (bs.getD 5 0), .int .i64 (bs.getD 6 0), .int .i64 (bs.getD 7 0)] : Value) = .agg ((shA bs).extract 1 9) from rfl, SA, SB] at EQ
      rw [show (#[.int .i64 zl, .int .i64 z0, .int .i64 z1, .int .i64 z2, .int .i64 z3, .int .i64 z4, .int .i64 z5, .int .i64 z6, .int .i64 z7] : Array Value).extract 1 9 = #[.int .i64 z0, .int .i64 z1, .int .i64 z2, .int .i64 z3, .int .i64 z4, .int .i64 z5, .int .i64 z6, .int .i64 z7] from rfl, show (#[.int .i64 yl, .int .i64 y0, .int .i64 y1, .int .i64 y2, .int .i64 y3, .int .i64 y4, .int .i64 y5, .int .i64 y6, .int .i64 y7] : Array Value).extract 1 9 = #[.int .i64 y0, .int .i64 y1, .int .i64 y2, .int .i64 y3, .int .i64 y4, .int .i64 y5, .int .i64 y6, .int .i64 y7] from rfl] at EQ
      by_cases he : xs = bs
      · rw [decide_eq_true he] at EQ
        rw [show woV f xs bs = .tuple #[.agg #[.int .i64 0, .int .i64 0], .bool false] from if_neg (by unfold woOk; rw [decide_eq_true he]; simp)]
        clear hv h1 h2 he hl SA SAL SB SBL IX IY l1 l2 m1 m2 f1 f2
        have EQ' := EQ.out
        subst el
        go_enter Try.func25, Try.ntmps25
        go_wp2_with fail
        rw [← hwa]
        clear hwa
        refine WC.out.mono ?_
        rintro e w1 ⟨rfl, b1⟩
        have BB := Lib.hid ((bl_then B0.out b1).alloc (bl_then B0.out b1).size (.cells #[.int .i64 zl, .int .i64 z0, .int .i64 z1, .int .i64 z2, .int .i64 z3, .int .i64 z4, .int .i64 z5, .int .i64 z6, .int .i64 z7] 71) |>.alloc (Nat.le_trans (bl_then B0.out b1).size (by simp)) (.cells #[.int .i64 zl, .int .i64 y0, .int .i64 y1, .int .i64 y2, .int .i64 y3, .int .i64 y4, .int .i64 y5, .int .i64 y6, .int .i64 y7] 71))
        obtain ⟨w3, hw3⟩ : ∃ w3, w3 = (w1.alloc (.cells #[.int .i64 zl, .int .i64 z0, .int .i64 z1, .int .i64 z2, .int .i64 z3, .int .i64 z4, .int .i64 z5, .int .i64 z6, .int .i64 z7] 71)).alloc (.cells #[.int .i64 zl, .int .i64 y0, .int .i64 y1, .int .i64 y2, .int .i64 y3, .int .i64 y4, .int .i64 y5, .int .i64 y6, .int .i64 y7] 71) := ⟨_, rfl⟩
        have HS : w3.heap[w1.heap.size]? = some (.cells #[.int .i64 zl, .int .i64 z0, .int .i64 z1, .int .i64 z2, .int .i64 z3, .int .i64 z4, .int .i64 z5, .int .i64 z6, .int .i64 z7] 71 (0, 0)) := by rw [hw3]; exact ((((Below.refl _ _).alloc (Nat.le_refl _) (.cells #[.int .i64 zl, .int .i64 y0, .int .i64 y1, .int .i64 y2, .int .i64 y3, .int .i64 y4, .int .i64 y5, .int .i64 y6, .int .i64 y7] 71)).block w1.heap.size (by simp)).trans (alloc_heap w1 (.cells #[.int .i64 zl, .int .i64 z0, .int .i64 z1, .int .i64 z2, .int .i64 z3, .int .i64 z4, .int .i64 z5, .int .i64 z6, .int .i64 z7] 71)))
        have HT : w3.heap[w1.heap.size + 1]? = some (.cells #[.int .i64 zl, .int .i64 y0, .int .i64 y1, .int .i64 y2, .int .i64 y3, .int .i64 y4, .int .i64 y5, .int .i64 y6, .int .i64 y7] 71 (0, 0)) := by rw [hw3]; have := alloc_heap (w1.alloc (.cells #[.int .i64 zl, .int .i64 z0, .int .i64 z1, .int .i64 z2, .int .i64 z3, .int .i64 z4, .int .i64 z5, .int .i64 z6, .int .i64 z7] 71)) (.cells #[.int .i64 zl, .int .i64 y0, .int .i64 y1, .int .i64 y2, .int .i64 y3, .int .i64 y4, .int .i64 y5, .int .i64 y6, .int .i64 y7] 71); simpa using this
        have SZ := Lib.hid (show w3.heap.size = w1.heap.size + 2 by rw [hw3]; simp)
        rw [← hw3] at BB
        obtain ⟨pc0, pc1, pc2, pc3, pc4, pc5, pc6, pc7, pc8⟩ := nine_cells HS
        obtain ⟨qc0, qc1, qc2, qc3, qc4, qc5, qc6, qc7, qc8⟩ := nine_cells HT
        rw [hw3] at pc0 pc1 pc2 pc3 pc4 pc5 pc6 pc7 pc8 qc0 qc1 qc2 qc3 qc4 qc5 qc6 qc7 qc8 BB
        clear b1 HS HT SZ hw3
        obtain ⟨⟨x0, y0'⟩, x1, y1'⟩ := RC.out _ BB.out
        go_wp2_with fail
        refine bodyPost_ret (v := .tuple #[.agg #[.int .i64 0, .int .i64 0], .bool false]) (by simp [results, Try.results25, go_sem, x0, x1]) rfl ⟨rfl, ?_⟩
        first | exact RF.out _ _ _ BB.out | exact UPB.out _ BB.out
      · rw [decide_eq_false he] at EQ
        obtain ⟨⟨p1, p2⟩, p3, p4⟩ := wo_pos h1 h2 hl he
        rw [show woV f xs bs = keptV (cutN (woX f.toNat xs bs) (woX f.toNat xs bs + woX f.toNat bs xs)) (cutD (woX f.toNat xs bs) (woX f.toNat xs bs + woX f.toNat bs xs)) from if_pos (by unfold woOk; rw [h1, h2, decide_eq_true hl, decide_eq_false he]; rfl)]
        obtain ⟨F, rfl⟩ : ∃ F : Nat, f = F := ⟨f.toNat, by omega⟩
        rw [Int.toNat_natCast] at p1 p2 p3 p4 ⊢
        have RD := Lib.hid (fun w => reduceI_pos (woX F xs bs) (woX F xs bs + woX F bs xs) w (by omega) (by omega))
        obtain ⟨p, q, ok, hK⟩ := keptV_form (cutN (woX F xs bs) (woX F xs bs + woX F bs xs)) (cutD (woX F xs bs) (woX F xs bs + woX F bs xs))
        rw [hK] at RD ⊢
        have q1 := wsN_bd (f := F) (by omega) bs bs (by omega)
        have q2 := wsN_bd (f := F) (by omega) bs xs (by omega)
        have q3 := wsN_bd (f := F) (by omega) xs xs (by omega)
        have q4 := wsN_bd (f := F) (by omega) xs bs (by omega)
        have S1 := Lib.hid (fun w' => winsC9 bs bs F w' (by omega) (by omega) (by omega) IY IY)
        have S2 := Lib.hid (fun w' => winsC9 bs xs F w' (by omega) (by omega) (by omega) IY IX)
        have S3 := Lib.hid (fun w' => winsC9 xs xs F w' (by omega) (by omega) (by omega) IX IX)
        have S4 := Lib.hid (fun w' => winsC9 xs bs F w' (by omega) (by omega) (by omega) IX IY)
        rw [show shV xs = .agg (shA xs) from rfl, SA] at S2 S3 S4
        rw [show shV bs = .agg (shA bs) from rfl, SB] at S1 S2 S4
        unfold woX at RD
        obtain ⟨s1, hs1⟩ : ∃ s : Int, s = (wsN F bs bs : Nat) := ⟨_, rfl⟩
        obtain ⟨s2, hs2⟩ : ∃ s : Int, s = (wsN F bs xs : Nat) := ⟨_, rfl⟩
        obtain ⟨s3, hs3⟩ : ∃ s : Int, s = (wsN F xs xs : Nat) := ⟨_, rfl⟩
        obtain ⟨s4, hs4⟩ : ∃ s : Int, s = (wsN F xs bs : Nat) := ⟨_, rfl⟩
        rw [← hs1] at S1 RD
        rw [← hs2] at S2 RD
        rw [← hs3] at S3 RD
        rw [← hs4] at S4 RD
        obtain ⟨t11, t12⟩ : 0 ≤ s1 ∧ s1 ≤ 13436928 := by omega
        obtain ⟨t21, t22⟩ : 0 ≤ s2 ∧ s2 ≤ 13436928 := by omega
        obtain ⟨t31, t32⟩ : 0 ≤ s3 ∧ s3 ≤ 13436928 := by omega
        obtain ⟨t41, t42⟩ : 0 ≤ s4 ∧ s4 ≤ 13436928 := by omega
        have WR1 := Lib.hid (show IntKind.i64.wrap (s1 - s2) = s1 - s2 from IntWalk.i64_in _ (by omega))
        have WR2 := Lib.hid (show IntKind.i64.wrap (s3 - s4) = s3 - s4 from IntWalk.i64_in _ (by omega))
        clear hv h1 h2 he hl SA SAL SB SBL IX IY l1 l2 m1 m2 f1 f2 p1 p2 p3 p4 q1 q2 q3 q4 hs1 hs2 hs3 hs4 hK
        have EQ' := EQ.out
        subst el
        go_enter Try.func25, Try.ntmps25
        go_wp2_with fail
        rw [← hwa]
        clear hwa
        refine WC.out.mono ?_
        rintro e w1 ⟨rfl, b1⟩
        have BB := Lib.hid ((bl_then B0.out b1).alloc (bl_then B0.out b1).size (.cells #[.int .i64 zl, .int .i64 z0, .int .i64 z1, .int .i64 z2, .int .i64 z3, .int .i64 z4, .int .i64 z5, .int .i64 z6, .int .i64 z7] 71) |>.alloc (Nat.le_trans (bl_then B0.out b1).size (by simp)) (.cells #[.int .i64 zl, .int .i64 y0, .int .i64 y1, .int .i64 y2, .int .i64 y3, .int .i64 y4, .int .i64 y5, .int .i64 y6, .int .i64 y7] 71))
        obtain ⟨w3, hw3⟩ : ∃ w3, w3 = (w1.alloc (.cells #[.int .i64 zl, .int .i64 z0, .int .i64 z1, .int .i64 z2, .int .i64 z3, .int .i64 z4, .int .i64 z5, .int .i64 z6, .int .i64 z7] 71)).alloc (.cells #[.int .i64 zl, .int .i64 y0, .int .i64 y1, .int .i64 y2, .int .i64 y3, .int .i64 y4, .int .i64 y5, .int .i64 y6, .int .i64 y7] 71) := ⟨_, rfl⟩
        have HS : w3.heap[w1.heap.size]? = some (.cells #[.int .i64 zl, .int .i64 z0, .int .i64 z1, .int .i64 z2, .int .i64 z3, .int .i64 z4, .int .i64 z5, .int .i64 z6, .int .i64 z7] 71 (0, 0)) := by rw [hw3]; exact ((((Below.refl _ _).alloc (Nat.le_refl _) (.cells #[.int .i64 zl, .int .i64 y0, .int .i64 y1, .int .i64 y2, .int .i64 y3, .int .i64 y4, .int .i64 y5, .int .i64 y6, .int .i64 y7] 71)).block w1.heap.size (by simp)).trans (alloc_heap w1 (.cells #[.int .i64 zl, .int .i64 z0, .int .i64 z1, .int .i64 z2, .int .i64 z3, .int .i64 z4, .int .i64 z5, .int .i64 z6, .int .i64 z7] 71)))
        have HT : w3.heap[w1.heap.size + 1]? = some (.cells #[.int .i64 zl, .int .i64 y0, .int .i64 y1, .int .i64 y2, .int .i64 y3, .int .i64 y4, .int .i64 y5, .int .i64 y6, .int .i64 y7] 71 (0, 0)) := by rw [hw3]; have := alloc_heap (w1.alloc (.cells #[.int .i64 zl, .int .i64 z0, .int .i64 z1, .int .i64 z2, .int .i64 z3, .int .i64 z4, .int .i64 z5, .int .i64 z6, .int .i64 z7] 71)) (.cells #[.int .i64 zl, .int .i64 y0, .int .i64 y1, .int .i64 y2, .int .i64 y3, .int .i64 y4, .int .i64 y5, .int .i64 y6, .int .i64 y7] 71); simpa using this
        have SZ := Lib.hid (show w3.heap.size = w1.heap.size + 2 by rw [hw3]; simp)
        rw [← hw3] at BB
        have K8 := Lib.hid (fun w' (hb : Below w3.heap.size w3 w') => show w'.cell? ⟨w1.heap.size, 0, none⟩ = some (.int .i64 zl) ∧ w'.cell? ⟨w1.heap.size, 1, none⟩ = some (.int .i64 z0) ∧ w'.cell? ⟨w1.heap.size, 2, none⟩ = some (.int .i64 z1) ∧ w'.cell? ⟨w1.heap.size, 3, none⟩ = some (.int .i64 z2) ∧ w'.cell? ⟨w1.heap.size, 4, none⟩ = some (.int .i64 z3) ∧ w'.cell? ⟨w1.heap.size, 5, none⟩ = some (.int .i64 z4) ∧ w'.cell? ⟨w1.heap.size, 6, none⟩ = some (.int .i64 z5) ∧ w'.cell? ⟨w1.heap.size, 7, none⟩ = some (.int .i64 z6) ∧ w'.cell? ⟨w1.heap.size, 8, none⟩ = some (.int .i64 z7) ∧ w'.cell? ⟨w1.heap.size + 1, 0, none⟩ = some (.int .i64 zl) ∧ w'.cell? ⟨w1.heap.size + 1, 1, none⟩ = some (.int .i64 y0) ∧ w'.cell? ⟨w1.heap.size + 1, 2, none⟩ = some (.int .i64 y1) ∧ w'.cell? ⟨w1.heap.size + 1, 3, none⟩ = some (.int .i64 y2) ∧ w'.cell? ⟨w1.heap.size + 1, 4, none⟩ = some (.int .i64 y3) ∧ w'.cell? ⟨w1.heap.size + 1, 5, none⟩ = some (.int .i64 y4) ∧ w'.cell? ⟨w1.heap.size + 1, 6, none⟩ = some (.int .i64 y5) ∧ w'.cell? ⟨w1.heap.size + 1, 7, none⟩ = some (.int .i64 y6) ∧ w'.cell? ⟨w1.heap.size + 1, 8, none⟩ = some (.int .i64 y7) ∧ Below w3.heap.size w3 w' from by
          obtain ⟨a0, a1, a2, a3, a4, a5, a6, a7, a8⟩ := nine_cells ((hb.block w1.heap.size (by have := SZ.out; omega)).trans HS)
          obtain ⟨c0, c1, c2, c3, c4, c5, c6, c7, c8⟩ := nine_cells ((hb.block (w1.heap.size + 1) (by have := SZ.out; omega)).trans HT)
          exact ⟨a0, a1, a2, a3, a4, a5, a6, a7, a8, c0, c1, c2, c3, c4, c5, c6, c7, c8, hb⟩)
        obtain ⟨pc0, pc1, pc2, pc3, pc4, pc5, pc6, pc7, pc8⟩ := nine_cells HS
        obtain ⟨qc0, qc1, qc2, qc3, qc4, qc5, qc6, qc7, qc8⟩ := nine_cells HT
        rw [hw3] at pc0 pc1 pc2 pc3 pc4 pc5 pc6 pc7 pc8 qc0 qc1 qc2 qc3 qc4 qc5 qc6 qc7 qc8
        have HW := Lib.hid hw3
        clear b1 HS HT hw3 SZ
        go_upto_region 4 with fail
        rw [← HW.out]
        rw [← HW.out] at pc0 pc1 pc2 pc3 pc4 pc5 pc6 pc7 pc8 qc0 qc1 qc2 qc3 qc4 qc5 qc6 qc7 qc8
        clear HW
        go_cut [11] (fun s11 wx => s11 = .int .i64 (s1 - s2) ∧ Hid (Below w3.heap.size w3 wx))
        case first =>
          go_region_held3 (fun w' => w'.cell? ⟨w1.heap.size, 0, none⟩ = some (.int .i64 zl) ∧ w'.cell? ⟨w1.heap.size, 1, none⟩ = some (.int .i64 z0) ∧ w'.cell? ⟨w1.heap.size, 2, none⟩ = some (.int .i64 z1) ∧ w'.cell? ⟨w1.heap.size, 3, none⟩ = some (.int .i64 z2) ∧ w'.cell? ⟨w1.heap.size, 4, none⟩ = some (.int .i64 z3) ∧ w'.cell? ⟨w1.heap.size, 5, none⟩ = some (.int .i64 z4) ∧ w'.cell? ⟨w1.heap.size, 6, none⟩ = some (.int .i64 z5) ∧ w'.cell? ⟨w1.heap.size, 7, none⟩ = some (.int .i64 z6) ∧ w'.cell? ⟨w1.heap.size, 8, none⟩ = some (.int .i64 z7) ∧ w'.cell? ⟨w1.heap.size + 1, 0, none⟩ = some (.int .i64 zl) ∧ w'.cell? ⟨w1.heap.size + 1, 1, none⟩ = some (.int .i64 y0) ∧ w'.cell? ⟨w1.heap.size + 1, 2, none⟩ = some (.int .i64 y1) ∧ w'.cell? ⟨w1.heap.size + 1, 3, none⟩ = some (.int .i64 y2) ∧ w'.cell? ⟨w1.heap.size + 1, 4, none⟩ = some (.int .i64 y3) ∧ w'.cell? ⟨w1.heap.size + 1, 5, none⟩ = some (.int .i64 y4) ∧ w'.cell? ⟨w1.heap.size + 1, 6, none⟩ = some (.int .i64 y5) ∧ w'.cell? ⟨w1.heap.size + 1, 7, none⟩ = some (.int .i64 y6) ∧ w'.cell? ⟨w1.heap.size + 1, 8, none⟩ = some (.int .i64 y7) ∧ Below w3.heap.size w3 w')
            (first | exact K8.out _ (below_drew (Below.refl _ _)) | exact K8.out _ hb9 | exact K8.out _ hb8)
            (first
              | (go_at_call 68; (first | (with_reducible refine (S1.out _).mono ?_) | (with_reducible refine (S2.out _).mono ?_)); rintro e w9 ⟨rfl, b9⟩; (first | (have hb9 := below_next hb8 b9) | (have hb8 := undrew b9)); clear b9))
          all_goals (go_wp2_with fail; go_meet; exact ⟨by first | rfl | rw [WR1.out], Lib.hid (by assumption)⟩)
        obtain ⟨rfl, h9⟩ := hcut
        obtain ⟨w5, rfl⟩ : ∃ w9 : World, w9 = wc := ⟨_, rfl⟩
        have K9 := Lib.hid (fun w' (hb : Below w5.heap.size w5 w') => show w'.cell? ⟨w1.heap.size, 0, none⟩ = some (.int .i64 zl) ∧ w'.cell? ⟨w1.heap.size, 1, none⟩ = some (.int .i64 z0) ∧ w'.cell? ⟨w1.heap.size, 2, none⟩ = some (.int .i64 z1) ∧ w'.cell? ⟨w1.heap.size, 3, none⟩ = some (.int .i64 z2) ∧ w'.cell? ⟨w1.heap.size, 4, none⟩ = some (.int .i64 z3) ∧ w'.cell? ⟨w1.heap.size, 5, none⟩ = some (.int .i64 z4) ∧ w'.cell? ⟨w1.heap.size, 6, none⟩ = some (.int .i64 z5) ∧ w'.cell? ⟨w1.heap.size, 7, none⟩ = some (.int .i64 z6) ∧ w'.cell? ⟨w1.heap.size, 8, none⟩ = some (.int .i64 z7) ∧ w'.cell? ⟨w1.heap.size + 1, 0, none⟩ = some (.int .i64 zl) ∧ w'.cell? ⟨w1.heap.size + 1, 1, none⟩ = some (.int .i64 y0) ∧ w'.cell? ⟨w1.heap.size + 1, 2, none⟩ = some (.int .i64 y1) ∧ w'.cell? ⟨w1.heap.size + 1, 3, none⟩ = some (.int .i64 y2) ∧ w'.cell? ⟨w1.heap.size + 1, 4, none⟩ = some (.int .i64 y3) ∧ w'.cell? ⟨w1.heap.size + 1, 5, none⟩ = some (.int .i64 y4) ∧ w'.cell? ⟨w1.heap.size + 1, 6, none⟩ = some (.int .i64 y5) ∧ w'.cell? ⟨w1.heap.size + 1, 7, none⟩ = some (.int .i64 y6) ∧ w'.cell? ⟨w1.heap.size + 1, 8, none⟩ = some (.int .i64 y7) ∧ Below w5.heap.size w5 w' from by
          obtain ⟨a0, a1, a2, a3, a4, a5, a6, a7, a8, c0, c1, c2, c3, c4, c5, c6, c7, c8, _⟩ := K8.out w' (below_next h9.out hb)
          exact ⟨a0, a1, a2, a3, a4, a5, a6, a7, a8, c0, c1, c2, c3, c4, c5, c6, c7, c8, hb⟩)
        have B5 := Lib.hid (bl_then BB.out h9.out)
        clear pc0 pc1 pc2 pc3 pc4 pc5 pc6 pc7 pc8 qc0 qc1 qc2 qc3 qc4 qc5 qc6 qc7 qc8
        obtain ⟨pc0, pc1, pc2, pc3, pc4, pc5, pc6, pc7, pc8, qc0, qc1, qc2, qc3, qc4, qc5, qc6, qc7, qc8, _⟩ := K9.out w5 (Below.refl _ _)
        clear h9 K8 BB
        go_upto_region 5 with fail
        go_cut [12] (fun s12 wx => s12 = .int .i64 (s3 - s4) ∧ Hid (Below w5.heap.size w5 wx))
        case first =>
          go_region_held3 (fun w' => w'.cell? ⟨w1.heap.size, 0, none⟩ = some (.int .i64 zl) ∧ w'.cell? ⟨w1.heap.size, 1, none⟩ = some (.int .i64 z0) ∧ w'.cell? ⟨w1.heap.size, 2, none⟩ = some (.int .i64 z1) ∧ w'.cell? ⟨w1.heap.size, 3, none⟩ = some (.int .i64 z2) ∧ w'.cell? ⟨w1.heap.size, 4, none⟩ = some (.int .i64 z3) ∧ w'.cell? ⟨w1.heap.size, 5, none⟩ = some (.int .i64 z4) ∧ w'.cell? ⟨w1.heap.size, 6, none⟩ = some (.int .i64 z5) ∧ w'.cell? ⟨w1.heap.size, 7, none⟩ = some (.int .i64 z6) ∧ w'.cell? ⟨w1.heap.size, 8, none⟩ = some (.int .i64 z7) ∧ w'.cell? ⟨w1.heap.size + 1, 0, none⟩ = some (.int .i64 zl) ∧ w'.cell? ⟨w1.heap.size + 1, 1, none⟩ = some (.int .i64 y0) ∧ w'.cell? ⟨w1.heap.size + 1, 2, none⟩ = some (.int .i64 y1) ∧ w'.cell? ⟨w1.heap.size + 1, 3, none⟩ = some (.int .i64 y2) ∧ w'.cell? ⟨w1.heap.size + 1, 4, none⟩ = some (.int .i64 y3) ∧ w'.cell? ⟨w1.heap.size + 1, 5, none⟩ = some (.int .i64 y4) ∧ w'.cell? ⟨w1.heap.size + 1, 6, none⟩ = some (.int .i64 y5) ∧ w'.cell? ⟨w1.heap.size + 1, 7, none⟩ = some (.int .i64 y6) ∧ w'.cell? ⟨w1.heap.size + 1, 8, none⟩ = some (.int .i64 y7) ∧ Below w5.heap.size w5 w')
            (first | exact K9.out _ (below_drew (Below.refl _ _)) | exact K9.out _ hb9 | exact K9.out _ hb8)
            (first
              | (go_at_call 68; (first | (with_reducible refine (S3.out _).mono ?_) | (with_reducible refine (S4.out _).mono ?_)); rintro e w9 ⟨rfl, b9⟩; (first | (have hb9 := below_next hb8 b9) | (have hb8 := undrew b9)); clear b9))
          all_goals (go_wp2_with fail; go_meet; exact ⟨by first | rfl | rw [WR2.out], Lib.hid (by assumption)⟩)
        obtain ⟨rfl, h9⟩ := hcut
        obtain ⟨w7, rfl⟩ : ∃ w9 : World, w9 = wc := ⟨_, rfl⟩
        have B7 := Lib.hid (bl_then B5.out h9.out)
        clear pc0 pc1 pc2 pc3 pc4 pc5 pc6 pc7 pc8 qc0 qc1 qc2 qc3 qc4 qc5 qc6 qc7 qc8 h9 K9 B5
        go_wp2_with fail
        refine (RD.out _).mono ?_
        rintro e w8 ⟨rfl, b8⟩
        have B8 := Lib.hid (bl_then B7.out b8)
        clear b8
        obtain ⟨⟨x0, y0'⟩, x1, y1'⟩ := RC.out _ B8.out
        go_wp2_with fail
        refine bodyPost_ret (v := .tuple #[.agg #[.int .i64 p, .int .i64 q], .bool ok]) (by simp [results, Try.results25, go_sem, x0, x1]) rfl ⟨rfl, ?_⟩
        exact RF.out _ _ _ B8.out
    · have el : ¬ zl = yl := by omega
      rw [show woV f xs bs = .tuple #[.agg #[.int .i64 0, .int .i64 0], .bool false] from if_neg (by unfold woOk; rw [decide_eq_false hl]; simp)]
      clear hv h1 h2 hl SA SAL SB SBL IX IY
      go_enter Try.func25, Try.ntmps25
      go_wp2_with fail
      rw [← hwa]
      clear hwa
      refine WC.out.mono ?_
      rintro e w1 ⟨rfl, b1⟩
      have BB := Lib.hid ((bl_then B0.out b1).alloc (bl_then B0.out b1).size (.cells #[.int .i64 zl, .int .i64 z0, .int .i64 z1, .int .i64 z2, .int .i64 z3, .int .i64 z4, .int .i64 z5, .int .i64 z6, .int .i64 z7] 71) |>.alloc (Nat.le_trans (bl_then B0.out b1).size (by simp)) (.cells #[.int .i64 yl, .int .i64 y0, .int .i64 y1, .int .i64 y2, .int .i64 y3, .int .i64 y4, .int .i64 y5, .int .i64 y6, .int .i64 y7] 71))
      obtain ⟨w3, hw3⟩ : ∃ w3, w3 = (w1.alloc (.cells #[.int .i64 zl, .int .i64 z0, .int .i64 z1, .int .i64 z2, .int .i64 z3, .int .i64 z4, .int .i64 z5, .int .i64 z6, .int .i64 z7] 71)).alloc (.cells #[.int .i64 yl, .int .i64 y0, .int .i64 y1, .int .i64 y2, .int .i64 y3, .int .i64 y4, .int .i64 y5, .int .i64 y6, .int .i64 y7] 71) := ⟨_, rfl⟩
      have HS : w3.heap[w1.heap.size]? = some (.cells #[.int .i64 zl, .int .i64 z0, .int .i64 z1, .int .i64 z2, .int .i64 z3, .int .i64 z4, .int .i64 z5, .int .i64 z6, .int .i64 z7] 71 (0, 0)) := by rw [hw3]; exact ((((Below.refl _ _).alloc (Nat.le_refl _) (.cells #[.int .i64 yl, .int .i64 y0, .int .i64 y1, .int .i64 y2, .int .i64 y3, .int .i64 y4, .int .i64 y5, .int .i64 y6, .int .i64 y7] 71)).block w1.heap.size (by simp)).trans (alloc_heap w1 (.cells #[.int .i64 zl, .int .i64 z0, .int .i64 z1, .int .i64 z2, .int .i64 z3, .int .i64 z4, .int .i64 z5, .int .i64 z6, .int .i64 z7] 71)))
      have HT : w3.heap[w1.heap.size + 1]? = some (.cells #[.int .i64 yl, .int .i64 y0, .int .i64 y1, .int .i64 y2, .int .i64 y3, .int .i64 y4, .int .i64 y5, .int .i64 y6, .int .i64 y7] 71 (0, 0)) := by rw [hw3]; have := alloc_heap (w1.alloc (.cells #[.int .i64 zl, .int .i64 z0, .int .i64 z1, .int .i64 z2, .int .i64 z3, .int .i64 z4, .int .i64 z5, .int .i64 z6, .int .i64 z7] 71)) (.cells #[.int .i64 yl, .int .i64 y0, .int .i64 y1, .int .i64 y2, .int .i64 y3, .int .i64 y4, .int .i64 y5, .int .i64 y6, .int .i64 y7] 71); simpa using this
      have SZ := Lib.hid (show w3.heap.size = w1.heap.size + 2 by rw [hw3]; simp)
      rw [← hw3] at BB
      obtain ⟨pc0, pc1, pc2, pc3, pc4, pc5, pc6, pc7, pc8⟩ := nine_cells HS
      obtain ⟨qc0, qc1, qc2, qc3, qc4, qc5, qc6, qc7, qc8⟩ := nine_cells HT
      rw [hw3] at pc0 pc1 pc2 pc3 pc4 pc5 pc6 pc7 pc8 qc0 qc1 qc2 qc3 qc4 qc5 qc6 qc7 qc8 BB
      clear b1 HS HT SZ hw3
      obtain ⟨⟨x0, y0'⟩, x1, y1'⟩ := RC.out _ BB.out
      go_wp2_with fail
      refine bodyPost_ret (v := .tuple #[.agg #[.int .i64 0, .int .i64 0], .bool false]) (by simp [results, Try.results25, go_sem, x0, x1]) rfl ⟨rfl, ?_⟩
      first | exact RF.out _ _ _ BB.out | exact UPB.out _ BB.out
end Go.Proofs.Ytagoodkaobcjaab
namespace Go.Proofs.Ytagoodkaobcjaab
open Go.RowKit
set_option linter.unusedVariables false
set_option maxRecDepth 100000 in
set_option maxHeartbeats 8000000 in
theorem woS (f : Int) (xs bs : List Int) (v u : Value) (w : World) (hf : InI64 f) (hn : xs.length ≤ 1048576) (hm : bs.length ≤ 1048576) (h : IntsV w w.heap.size v xs) (k : IntsV w w.heap.size u bs) :
    Calls Try.prog 24 #[.int .i64 f, v, u] w (Gives (woV f xs bs) w) := by
  have B0 := Lib.hid (bl_self w (.cells #[.int .i64 0, .int .i64 0] 35))
  have RC := Lib.hid (fun w3 b => rs_cells (w := w) (w3 := w3) b)
  have RF := Lib.hid (fun w3 x y b => rs_fin (w := w) (w3 := w3) (x := x) (y := y) b)
  have UPB := Lib.hid (fun w3 (b : Below (w.alloc (.cells #[.int .i64 0, .int .i64 0] 35)).heap.size (w.alloc (.cells #[.int .i64 0, .int .i64 0] 35)) w3) => rs_same b)
  obtain ⟨wa, hwa⟩ : ∃ wa, wa = w.alloc (.cells #[.int .i64 0, .int .i64 0] 35) := ⟨_, rfl⟩
  rw [← hwa] at B0 RC RF UPB
  have hA := h.below (UPB.out _ B0.out)
  have kA := k.below (UPB.out _ B0.out)
  have W1 := Lib.hid (wordS f xs v w.heap.size wa hf hn hA)
  have W2 := Lib.hid (wordS f bs u w.heap.size wa hf hm kA)
  obtain ⟨qq, cq, rfl, lq, SB0⟩ := SubB.intsV (hA.more (UPB.out _ B0.out).size)
  obtain ⟨qr, cr, rfl, lr, SB1⟩ := SubB.intsV (kA.more (UPB.out _ B0.out).size)
  clear h k hA kA
  cases h1 : wdOk f xs
  · rw [h1] at W1
    rw [show woV f xs bs = .tuple #[.agg #[.int .i64 0, .int .i64 0], .bool false] from if_neg (by unfold woOk; rw [h1]; simp)]
    clear h1 SB0 SB1
    go_enter Try.func24, Try.ntmps24
    go_wp2_with fail
    rw [← hwa]
    clear hwa
    refine W1.out.mono ?_
    rintro e w1 ⟨rfl, rfl⟩
    obtain ⟨⟨x0, y0⟩, x1, y1⟩ := RC.out _ B0.out
    go_wp2_with fail
    refine bodyPost_ret (v := .tuple #[.agg #[.int .i64 0, .int .i64 0], .bool false]) (by simp [results, Try.results24, go_sem, x0, x1]) rfl ⟨rfl, ?_⟩
    first | exact RF.out _ _ _ B0.out | exact UPB.out _ B0.out | exact RF.out _ _ _ (B0.out).drew
  · rw [h1] at W1
    cases h2 : wdOk f bs
    · rw [h2] at W2
      rw [show woV f xs bs = .tuple #[.agg #[.int .i64 0, .int .i64 0], .bool false] from if_neg (by unfold woOk; rw [h2]; simp)]
      clear h1 h2 SB0 SB1
      go_enter Try.func24, Try.ntmps24
      go_wp2_with fail
      rw [← hwa]
      clear hwa
      refine W1.out.mono ?_
      rintro e w1 ⟨rfl, rfl⟩
      go_wp2_with fail
      refine W2.out.mono ?_
      rintro e w1 ⟨rfl, rfl⟩
      obtain ⟨⟨x0, y0⟩, x1, y1⟩ := RC.out _ B0.out
      go_wp2_with fail
      refine bodyPost_ret (v := .tuple #[.agg #[.int .i64 0, .int .i64 0], .bool false]) (by simp [results, Try.results24, go_sem, x0, x1]) rfl ⟨rfl, ?_⟩
      first | exact RF.out _ _ _ B0.out | exact UPB.out _ B0.out | exact RF.out _ _ _ (B0.out).drew
    · rw [h2] at W2
      by_cases hl : xs.length = bs.length
      · obtain ⟨⟨f1, f2⟩, ⟨l1, l2⟩, _⟩ := wd_bd h1
        obtain ⟨_, ⟨m1, m2⟩, _⟩ := wd_bd h2
        have SM := Lib.hid (sameS xs bs qq qr cq cr wa (by omega) hl SB0 SB1)
        have el : (xs.length : Int) = (bs.length : Int) := by omega
        by_cases he : xs = bs
        · rw [decide_eq_true he] at SM
          rw [show woV f xs bs = .tuple #[.agg #[.int .i64 0, .int .i64 0], .bool false] from if_neg (by unfold woOk; rw [decide_eq_true he]; simp)]
          clear h1 h2 he SB0 SB1 l1 l2 m1 m2 f1 f2 hl
          go_enter Try.func24, Try.ntmps24
          go_wp2_with fail
          rw [← hwa]
          clear hwa
          refine W1.out.mono ?_
          rintro e w1 ⟨rfl, rfl⟩
          go_wp2_with fail
          refine W2.out.mono ?_
          rintro e w1 ⟨rfl, rfl⟩
          go_wp2_with fail
          refine SM.out.mono ?_
          rintro e w2 ⟨rfl, kk, hk⟩
          have B2 := Lib.hid (show Below wa.heap.size wa w2 by rw [hk]; exact below_drewN B0.out kk)
          clear hk
          obtain ⟨⟨x0, y0⟩, x1, y1⟩ := RC.out _ B2.out
          go_wp2_with fail
          refine bodyPost_ret (v := .tuple #[.agg #[.int .i64 0, .int .i64 0], .bool false]) (by simp [results, Try.results24, go_sem, x0, x1]) rfl ⟨rfl, ?_⟩
          first | exact RF.out _ _ _ B2.out | exact UPB.out _ B2.out | exact RF.out _ _ _ (B2.out).drew
        · rw [decide_eq_false he] at SM
          obtain ⟨⟨p1, p2⟩, p3, p4⟩ := wo_pos h1 h2 hl he
          rw [show woV f xs bs = keptV (cutN (woX f.toNat xs bs) (woX f.toNat xs bs + woX f.toNat bs xs)) (cutD (woX f.toNat xs bs) (woX f.toNat xs bs + woX f.toNat bs xs)) from if_pos (by unfold woOk; rw [h1, h2, decide_eq_true hl, decide_eq_false he]; rfl)]
          obtain ⟨F, rfl⟩ : ∃ F : Nat, f = F := ⟨f.toNat, by omega⟩
          rw [Int.toNat_natCast] at p1 p2 p3 p4 ⊢
          have CU := Lib.hid (fun w => cutS (woX F xs bs) (woX F xs bs + woX F bs xs) w (by omega) (by omega))
          have KP := Lib.hid (fun w => keptS_cut (a := woX F xs bs) (b := woX F xs bs + woX F bs xs) w (by omega))
          obtain ⟨p, q, ok, hK⟩ := keptV_form (cutN (woX F xs bs) (woX F xs bs + woX F bs xs)) (cutD (woX F xs bs) (woX F xs bs + woX F bs xs))
          rw [hK] at KP ⊢
          generalize cutN (woX F xs bs) (woX F xs bs + woX F bs xs) = CN at *
          generalize cutD (woX F xs bs) (woX F xs bs + woX F bs xs) = CD at *
          have q1 := wsN_bd (f := F) (by omega) bs bs (by omega)
          have q2 := wsN_bd (f := F) (by omega) bs xs (by omega)
          have q3 := wsN_bd (f := F) (by omega) xs xs (by omega)
          have q4 := wsN_bd (f := F) (by omega) xs bs (by omega)
          have S1 := Lib.hid (fun w' (hb : Below wa.heap.size wa w') => sumS9 F bs bs qr qr cr cr w' (by omega) (by omega) (by omega) lr lr (SB1.below hb) (SB1.below hb))
          have S2 := Lib.hid (fun w' (hb : Below wa.heap.size wa w') => sumS9 F bs xs qr qq cr cq w' (by omega) (by omega) (by omega) lr lq (SB1.below hb) (SB0.below hb))
          have S3 := Lib.hid (fun w' (hb : Below wa.heap.size wa w') => sumS9 F xs xs qq qq cq cq w' (by omega) (by omega) (by omega) lq lq (SB0.below hb) (SB0.below hb))
          have S4 := Lib.hid (fun w' (hb : Below wa.heap.size wa w') => sumS9 F xs bs qq qr cq cr w' (by omega) (by omega) (by omega) lq lr (SB0.below hb) (SB1.below hb))
          unfold woX at CU
          obtain ⟨s1, hs1⟩ : ∃ s : Int, s = (wsN F bs bs : Nat) := ⟨_, rfl⟩
          obtain ⟨s2, hs2⟩ : ∃ s : Int, s = (wsN F bs xs : Nat) := ⟨_, rfl⟩
          obtain ⟨s3, hs3⟩ : ∃ s : Int, s = (wsN F xs xs : Nat) := ⟨_, rfl⟩
          obtain ⟨s4, hs4⟩ : ∃ s : Int, s = (wsN F xs bs : Nat) := ⟨_, rfl⟩
          rw [← hs1] at S1 CU
          rw [← hs2] at S2 CU
          rw [← hs3] at S3 CU
          rw [← hs4] at S4 CU
          have t1 : 0 ≤ s1 ∧ s1 ≤ 13436928 := by omega
          have t2 : 0 ≤ s2 ∧ s2 ≤ 13436928 := by omega
          have t3 : 0 ≤ s3 ∧ s3 ≤ 13436928 := by omega
          have t4 : 0 ≤ s4 ∧ s4 ≤ 13436928 := by omega
          clear h1 h2 hl he SB0 SB1 l1 l2 m1 m2 f1 f2 p1 p2 p3 p4 q1 q2 q3 q4 hs1 hs2 hs3 hs4 hK
          obtain ⟨t11, t12⟩ := t1
          obtain ⟨t21, t22⟩ := t2
          obtain ⟨t31, t32⟩ := t3
          obtain ⟨t41, t42⟩ := t4
          go_enter Try.func24, Try.ntmps24
          go_wp2_with fail
          rw [← hwa]
          clear hwa
          refine W1.out.mono ?_
          rintro e w1 ⟨rfl, rfl⟩
          go_wp2_with fail
          refine W2.out.mono ?_
          rintro e w1 ⟨rfl, rfl⟩
          go_wp2_with fail
          refine SM.out.mono ?_
          rintro e w2 ⟨rfl, kk, hk⟩
          have B0 := Lib.hid (show Below wa.heap.size wa w2 by rw [hk]; exact below_drewN B0.out kk)
          clear hk
          go_wp2_with fail
          refine (S1.out _ B0.out).mono ?_
          rintro e v1 ⟨rfl, b1⟩
          have B1 := Lib.hid (bl_then B0.out b1)
          clear b1
          go_wp2_with fail
          refine (S2.out _ B1.out).mono ?_
          rintro e v2 ⟨rfl, b2⟩
          have B2 := Lib.hid (bl_then B1.out b2)
          clear b2
          go_wp2_with fail
          refine (S3.out _ B2.out).mono ?_
          rintro e v3 ⟨rfl, b3⟩
          have B3 := Lib.hid (bl_then B2.out b3)
          clear b3
          go_wp2_with fail
          refine (S4.out _ B3.out).mono ?_
          rintro e v4 ⟨rfl, b4⟩
          have B4 := Lib.hid (bl_then B3.out b4)
          clear b4
          go_wp2_with fail
          refine (CU.out _).mono ?_
          rintro e w3 ⟨rfl, b5⟩
          have B5 := Lib.hid (bl_then B4.out b5)
          clear b5
          go_wp2_with fail
          refine (KP.out _).mono ?_
          rintro e w4 ⟨rfl, b6⟩
          have B6 := Lib.hid (bl_then B5.out b6)
          clear b6
          obtain ⟨⟨x0, y0⟩, x1, y1⟩ := RC.out _ B6.out
          go_wp2_with fail
          refine bodyPost_ret (v := .tuple #[.agg #[.int .i64 p, .int .i64 q], .bool ok]) (by simp [results, Try.results24, go_sem, x0, x1]) rfl ⟨rfl, ?_⟩
          exact RF.out _ _ _ B6.out
      · rw [show woV f xs bs = .tuple #[.agg #[.int .i64 0, .int .i64 0], .bool false] from if_neg (by unfold woOk; rw [decide_eq_false hl]; simp)]
        have el : ¬ (xs.length : Int) = (bs.length : Int) := by omega
        clear h1 h2 hl SB0 SB1
        go_enter Try.func24, Try.ntmps24
        go_wp2_with fail
        rw [← hwa]
        clear hwa
        refine W1.out.mono ?_
        rintro e w1 ⟨rfl, rfl⟩
        go_wp2_with fail
        refine W2.out.mono ?_
        rintro e w1 ⟨rfl, rfl⟩
        obtain ⟨⟨x0, y0⟩, x1, y1⟩ := RC.out _ B0.out
        go_wp2_with fail
        refine bodyPost_ret (v := .tuple #[.agg #[.int .i64 0, .int .i64 0], .bool false]) (by simp [results, Try.results24, go_sem, x0, x1]) rfl ⟨rfl, ?_⟩
        first | exact RF.out _ _ _ B0.out | exact UPB.out _ B0.out | exact RF.out _ _ _ (B0.out).drew
end Go.Proofs.Ytagoodkaobcjaab
