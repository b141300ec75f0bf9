/- What throws have shown: its parts, in the program. -/
import Derived.Test.YtligidmkhbcpmaaShwP
import Derived.Deep.RegionLaw
namespace Go.Proofs.Ytligidmkhbcpmaa
open Go.RowKit
set_option linter.unusedVariables false
theorem sh_splice : ∀ ys : List Int, ys.length ≤ 8 → splice (Value.int .i64 (ys.length : Int) :: List.replicate 8 (.int .i64 0)) 1 (ys.map (Value.int .i64)) = (shL ys).map (.int .i64)
  | [], _ => rfl
  | [_], _ => rfl
  | [_, _], _ => rfl
  | [_, _, _], _ => rfl
  | [_, _, _, _], _ => rfl
  | [_, _, _, _, _], _ => rfl
  | [_, _, _, _, _, _], _ => rfl
  | [_, _, _, _, _, _, _], _ => rfl
  | [_, _, _, _, _, _, _, _], _ => rfl
  | _ :: _ :: _ :: _ :: _ :: _ :: _ :: _ :: _ :: _, h => by simp at h
/-- A block of what throws have shown. -/
def SBox (w : World) (R : Nat) (zs : List Int) : Prop := w.heap[R]? = some (.cells (shA zs) 47 (0, 0))
theorem SBox.lt {w : World} {R : Nat} {zs : List Int} (h : SBox w R zs) : R < w.heap.size := by unfold SBox at h; exact (Array.getElem?_eq_some_iff.1 h).1
theorem SBox.below {w w1 : World} {R C : Nat} {zs : List Int} (h : SBox w R zs) (hb : Below C w w1) (hR : R < C) : SBox w1 R zs := (hb.block R hR).trans h
theorem SBox.next {w w1 : World} {R : Nat} {zs : List Int} (h : SBox w R zs) (hb : Below w.heap.size w w1) : SBox w1 R zs := h.below hb h.lt
theorem SBox.new (w : World) (zs : List Int) : SBox (w.alloc (.cells (shA zs) 47)) w.heap.size zs := alloc_heap w _
theorem shA_at {zs : List Int} (hl : zs.length ≤ 8) {i : Nat} (hi : i < zs.length) : (shA zs)[1 + i]? = some (.int .i64 (zs.getD i 0)) := by
  obtain rfl | rfl | rfl | rfl | rfl | rfl | rfl | rfl : i = 0 ∨ i = 1 ∨ i = 2 ∨ i = 3 ∨ i = 4 ∨ i = 5 ∨ i = 6 ∨ i = 7 := by omega
  all_goals rfl
theorem SBox.cells {w : World} {R : Nat} {zs : List Int} (h : SBox w R zs) :
    w.cell? ⟨R, 0, none⟩ = some (.int .i64 (zs.length : Int)) ∧ w.cell? ⟨R, 1, none⟩ = some (.int .i64 (zs.getD 0 0)) ∧ w.cell? ⟨R, 2, none⟩ = some (.int .i64 (zs.getD 1 0)) ∧ w.cell? ⟨R, 3, none⟩ = some (.int .i64 (zs.getD 2 0)) ∧ w.cell? ⟨R, 4, none⟩ = some (.int .i64 (zs.getD 3 0)) ∧ w.cell? ⟨R, 5, none⟩ = some (.int .i64 (zs.getD 4 0)) ∧ w.cell? ⟨R, 6, none⟩ = some (.int .i64 (zs.getD 5 0)) ∧ w.cell? ⟨R, 7, none⟩ = some (.int .i64 (zs.getD 6 0)) ∧ w.cell? ⟨R, 8, none⟩ = some (.int .i64 (zs.getD 7 0)) :=
  ⟨(cell_of_heap (o := 0) h rfl).1, (cell_of_heap (o := 1) h rfl).1, (cell_of_heap (o := 2) h rfl).1, (cell_of_heap (o := 3) h rfl).1, (cell_of_heap (o := 4) h rfl).1, (cell_of_heap (o := 5) h rfl).1, (cell_of_heap (o := 6) h rfl).1, (cell_of_heap (o := 7) h rfl).1, (cell_of_heap (o := 8) h rfl).1⟩
theorem shA_map (zs : List Int) : ((shL zs).map (Value.int .i64)).toArray = shA zs := rfl
/-- The zeros of such a block can be written on. -/
def ZBox (w : World) (R : Nat) : Prop := w.heap[R]? = some (.cells #[.int .i64 0, .int .i64 0, .int .i64 0, .int .i64 0, .int .i64 0, .int .i64 0, .int .i64 0, .int .i64 0, .int .i64 0] 47 (0, 0))
theorem ZBox.lt {w : World} {R : Nat} (h : ZBox w R) : R < w.heap.size := by unfold ZBox at h; exact (Array.getElem?_eq_some_iff.1 h).1
theorem ZBox.below {w w1 : World} {R C : Nat} (h : ZBox w R) (hb : Below C w w1) (hR : R < C) : ZBox w1 R := (hb.block R hR).trans h
theorem ZBox.cells {w : World} {R : Nat} (h : ZBox w R) (o : Nat) (ho : o < 9) : w.cell? ⟨R, o, none⟩ = some (.int .i64 0) ∧ w.frozen? ⟨R, o, none⟩ = false := by
  refine cell_of_heap h ?_
  obtain rfl | rfl | rfl | rfl | rfl | rfl | rfl | rfl | rfl : o = 0 ∨ o = 1 ∨ o = 2 ∨ o = 3 ∨ o = 4 ∨ o = 5 ∨ o = 6 ∨ o = 7 ∨ o = 8 := by omega
  all_goals rfl
/-- Nine stores into one block. -/
theorem bl_nine {V w : World} {g : Nat} (h : Below V.heap.size V w) (hg : V.heap.size ≤ g) (x0 x1 x2 x3 x4 x5 x6 x7 x8 : Value) :
    Below V.heap.size V (((((((((w.setCell ⟨g, 0, none⟩ x0).setCell ⟨g, 1, none⟩ x1).setCell ⟨g, 2, none⟩ x2).setCell ⟨g, 3, none⟩ x3).setCell ⟨g, 4, none⟩ x4).setCell ⟨g, 5, none⟩ x5).setCell ⟨g, 6, none⟩ x6).setCell ⟨g, 7, none⟩ x7).setCell ⟨g, 8, none⟩ x8) :=
  ((((((((h.setCell (p := ⟨g, 0, none⟩) hg x0).setCell (p := ⟨g, 1, none⟩) hg x1).setCell (p := ⟨g, 2, none⟩) hg x2).setCell (p := ⟨g, 3, none⟩) hg x3).setCell (p := ⟨g, 4, none⟩) hg x4).setCell (p := ⟨g, 5, none⟩) hg x5).setCell (p := ⟨g, 6, none⟩) hg x6).setCell (p := ⟨g, 7, none⟩) hg x7).setCell (p := ⟨g, 8, none⟩) hg x8
theorem part_len {zs : List Int} {a b : Nat} (hab : a ≤ b) (hb : b ≤ zs.length) : ((zs.take b).drop a).length = b - a := by
  rw [List.length_drop, List.length_take]; omega
theorem part_at {zs : List Int} {a b j : Nat} (hb : b ≤ zs.length) (hj : j < b - a) : ((zs.take b).drop a).getD j 0 = zs.getD (a + j) 0 := by
  rw [drop_getD, take_getD _ _ _ (by omega)]
set_option maxRecDepth 100000 in
set_option maxHeartbeats 4000000 in
theorem partC (zs : List Int) (a b : Nat) (w : World) (hl : zs.length ≤ 8) (hab : a ≤ b) (hb : b ≤ zs.length) (ha : a < 8) :
    Calls Try.prog 64 #[shV zs, .int .i64 a, .int .i64 b] w (Gives (shV ((zs.take b).drop a)) w) := by
  obtain ⟨ys, hys⟩ : ∃ ys, ys = (zs.take b).drop a := ⟨_, rfl⟩
  have yl : ys.length = b - a := by rw [hys]; exact part_len hab hb
  have ya : ∀ j, j < b - a → ys.getD j 0 = zs.getD (a + j) 0 := fun j hj => by rw [hys]; exact part_at hb hj
  rw [← hys]
  have SPL := Lib.hid (sh_splice ys (by omega))
  obtain ⟨n, hn⟩ : ∃ n, n = b - a := ⟨_, rfl⟩
  have hsz : (Try.prog.info? 3).map (·.size) = some 1 := by obtain ⟨i0, hi, hz0, hz1, hz2⟩ := info_parts intInfo; rw [hi]; simp [hz1]
  -- the blocks
  obtain ⟨wb, hwb⟩ : ∃ wb, wb = ((w.alloc (.cells (shA zs) 47)).alloc (.cells #[.int .i64 0, .int .i64 0, .int .i64 0, .int .i64 0, .int .i64 0, .int .i64 0, .int .i64 0, .int .i64 0, .int .i64 0] 47)).alloc (.cells #[.int .i64 ((b : Int) - (a : Int)), .int .i64 0, .int .i64 0, .int .i64 0, .int .i64 0, .int .i64 0, .int .i64 0, .int .i64 0, .int .i64 0] 47) := ⟨_, rfl⟩
  have HB := Lib.hid (show Below w.heap.size w wb by rw [hwb]; exact (((Below.refl w.heap.size w).alloc (Nat.le_refl _) _).alloc (by simp) _).alloc (by simp; omega) _)
  have HS := Lib.hid (show SBox wb w.heap.size zs by rw [hwb]; exact ((SBox.new w zs).next ((Below.refl _ _).alloc (Nat.le_refl _) _)).next ((Below.refl _ _).alloc (Nat.le_refl _) _))
  have HZ := Lib.hid (show ZBox wb (w.heap.size + 1) by
    rw [hwb]
    have h := alloc_heap (w.alloc (.cells (shA zs) 47)) (.cells #[.int .i64 0, .int .i64 0, .int .i64 0, .int .i64 0, .int .i64 0, .int .i64 0, .int .i64 0, .int .i64 0, .int .i64 0] 47)
    have h2 := ((Below.refl _ _).alloc (Nat.le_refl _) (.cells #[.int .i64 ((b : Int) - (a : Int)), .int .i64 0, .int .i64 0, .int .i64 0, .int .i64 0, .int .i64 0, .int .i64 0, .int .i64 0, .int .i64 0] 47) : Below ((w.alloc (.cells (shA zs) 47)).alloc (.cells #[.int .i64 0, .int .i64 0, .int .i64 0, .int .i64 0, .int .i64 0, .int .i64 0, .int .i64 0, .int .i64 0, .int .i64 0] 47)).heap.size ((w.alloc (.cells (shA zs) 47)).alloc (.cells #[.int .i64 0, .int .i64 0, .int .i64 0, .int .i64 0, .int .i64 0, .int .i64 0, .int .i64 0, .int .i64 0, .int .i64 0] 47)) _)
    exact (h2.block (w.heap.size + 1) (by simp)).trans (by simpa using h))
  have HP := Lib.hid (show wb.heap[w.heap.size + 1 + 1]? = some (.cells (Value.int .i64 (ys.length : Int) :: List.replicate 8 (.int .i64 0)).toArray 47 (0, 0)) by
    rw [hwb, yl, show ((b - a : Nat) : Int) = (b : Int) - (a : Int) by omega]
    have h := alloc_heap ((w.alloc (.cells (shA zs) 47)).alloc (.cells #[.int .i64 0, .int .i64 0, .int .i64 0, .int .i64 0, .int .i64 0, .int .i64 0, .int .i64 0, .int .i64 0, .int .i64 0] 47)) (.cells #[.int .i64 ((b : Int) - (a : Int)), .int .i64 0, .int .i64 0, .int .i64 0, .int .i64 0, .int .i64 0, .int .i64 0, .int .i64 0, .int .i64 0] 47)
    simpa using h)
  have SRC := Lib.hid (fun (j : Nat) (u : Value) (hu : (ys.map (Value.int .i64))[j]? = some u) => show wb.cell? ((⟨w.heap.size, 1 + a, none⟩ : Addr).add j) = some u by
    rw [List.getElem?_map] at hu
    have hj : j < ys.length := by
      rcases Nat.lt_or_ge j ys.length with h' | h'
      · exact h'
      · rw [List.getElem?_eq_none h'] at hu; cases hu
    have e := ya j (by omega)
    rw [List.getElem?_eq_getElem hj] at hu
    rw [List.getD_eq_getElem?_getD, List.getElem?_eq_getElem hj] at e
    have c := (cell_of_heap (o := 1 + (a + j)) HS.out (shA_at hl (i := a + j) (by omega))).1
    rw [Addr.add_lit, show 1 + a + j = 1 + (a + j) by omega, c, ← e]
    exact hu)
  have MIN := Lib.hid (show (ys.map (Value.int .i64)).length = Nat.min (b - a) 8 by rw [List.length_map, yl]; show b - a = min (b - a) 8; omega)
  have FIT := Lib.hid (show 1 + (ys.map (Value.int .i64)).length ≤ (Value.int .i64 (ys.length : Int) :: List.replicate 8 (.int .i64 0)).length by simp; omega)
  have ONE := Lib.hid (fun (u : Value) (hu : u ∈ ys.map (Value.int .i64)) => show u.oneCell' = true by obtain ⟨z, _, rfl⟩ := List.mem_map.1 hu; rfl)
  have ln : (n : Int) = (b : Int) - (a : Int) := by omega
  have SLE := Lib.hid ln
  obtain ⟨cur, hcur⟩ : ∃ cur, cur = (Value.int .i64 (ys.length : Int) :: List.replicate 8 (.int .i64 0)) := ⟨_, rfl⟩
  rw [← hcur] at HP FIT SPL
  obtain ⟨cs, hcs⟩ : ∃ cs, cs = ys.map (Value.int .i64) := ⟨_, rfl⟩
  rw [← hcs] at SPL SRC MIN FIT ONE
  obtain ⟨V, hV⟩ : ∃ V, V = shV ys := ⟨_, rfl⟩
  rw [← hV]
  have HV := Lib.hid hV
  unfold shV
  obtain ⟨l, hl0⟩ : ∃ l : Int, l = zs.length := ⟨_, rfl⟩
  obtain ⟨z0, h0⟩ : ∃ z, z = zs.getD 0 0 := ⟨_, rfl⟩
  obtain ⟨z1, h1⟩ : ∃ z, z = zs.getD 1 0 := ⟨_, rfl⟩
  obtain ⟨z2, h2⟩ : ∃ z, z = zs.getD 2 0 := ⟨_, rfl⟩
  obtain ⟨z3, h3⟩ : ∃ z, z = zs.getD 3 0 := ⟨_, rfl⟩
  obtain ⟨z4, h4⟩ : ∃ z, z = zs.getD 4 0 := ⟨_, rfl⟩
  obtain ⟨z5, h5⟩ : ∃ z, z = zs.getD 5 0 := ⟨_, rfl⟩
  obtain ⟨z6, h6⟩ : ∃ z, z = zs.getD 6 0 := ⟨_, rfl⟩
  obtain ⟨z7, h7⟩ : ∃ z, z = zs.getD 7 0 := ⟨_, rfl⟩
  have SA : shA zs = #[.int .i64 l, .int .i64 z0, .int .i64 z1, .int .i64 z2, .int .i64 z3, .int .i64 z4, .int .i64 z5, .int .i64 z6, .int .i64 z7] := by
    rw [hl0, h0, h1, h2, h3, h4, h5, h6, h7]; rfl
  rw [SA] at hwb ⊢
  obtain ⟨HT, hHT⟩ : ∃ HT, HT = (shL ys).map (Value.int .i64) := ⟨_, rfl⟩
  have SPE := Lib.hid (show (splice cur 1 cs).toArray = shA ys by rw [SPL.out]; exact shA_map ys)
  have ba : (a : Int) ≤ (b : Int) := by omega
  have b81 : (b : Int) ≤ 8 := by omega
  have a81 : (a : Int) < 8 := by omega
  have a0 : 0 ≤ (a : Int) := by omega
  have t8 : ¬ 8 - a = 0 := by omega
  have t9 : ¬ a = 8 := by omega
  have nb : n = b - a := hn
  have bal : n ≤ 8 := by omega
  have GW := Lib.hid (Nat.le_refl (w.heap.size + 1 + 1))
  clear hys yl ya hV hl0 h0 h1 h2 h3 h4 h5 h6 h7 SA hl hHT hcur hcs hb ln SPL
  go_enter Try.func64, Try.ntmps64
  go_upto_region 2 with fail
  rw [← hwb]
  clear hwb
  have HBD := Lib.hid (below_drew (Below.refl (w.heap.size + 1 + 1) wb))
  go_region_law (refine step_copy_splice (o := ⟨some 18, _, _, _, _, _⟩) rfl (.tmp 13) (.tmp 17) 22 22 rfl 3 Try.underlying22 hsz (some ⟨w.heap.size + 1 + 1, 1, none⟩) (some ⟨w.heap.size, 1 + a, none⟩) 8 8 (b - a) (8 - a) (by first | (simp [go_sem]; done) | (simp [go_sem]; omega)) (by first | (simp [go_sem]; done) | (simp [go_sem]; omega)) (w.heap.size + 1 + 1) 1 cur 47 HP.out cs MIN.out (fun _ => ⟨rfl, _, rfl, SRC.out⟩) FIT.out ONE.out (w.heap.size + 1 + 1) wb HBD.out GW.out ?_; intro w4 hg4 hb4)
  all_goals
    have HB4 := Lib.hid (HB.out.trans (hb4.mono (by omega)))
    have HZ4 := Lib.hid (HZ.out.below hb4 (by omega))
    have HY4 := Lib.hid (show SBox w4 (w.heap.size + 1 + 1) ys by unfold SBox; rw [← SPE.out]; exact hg4.out)
    obtain ⟨q0, q1, q2, q3, q4, q5, q6, q7, q8⟩ := HY4.out.cells
    obtain ⟨c0, f0⟩ := HZ4.out.cells 0 (by omega)
    obtain ⟨c1, f1⟩ := HZ4.out.cells 1 (by omega)
    obtain ⟨c2, f2⟩ := HZ4.out.cells 2 (by omega)
    obtain ⟨c3, f3⟩ := HZ4.out.cells 3 (by omega)
    obtain ⟨c4, f4⟩ := HZ4.out.cells 4 (by omega)
    obtain ⟨c5, f5⟩ := HZ4.out.cells 5 (by omega)
    obtain ⟨c6, f6⟩ := HZ4.out.cells 6 (by omega)
    obtain ⟨c7, f7⟩ := HZ4.out.cells 7 (by omega)
    obtain ⟨c8, f8⟩ := HZ4.out.cells 8 (by omega)
    have HV2 := Lib.hid (show V = .agg (shA ys) from HV.out)
    unfold shA at HV2
    obtain ⟨m, hm⟩ : ∃ m : Int, m = ys.length := ⟨_, rfl⟩
    obtain ⟨y0, k0⟩ : ∃ z, z = ys.getD 0 0 := ⟨_, rfl⟩
    obtain ⟨y1, k1⟩ : ∃ z, z = ys.getD 1 0 := ⟨_, rfl⟩
    obtain ⟨y2, k2⟩ : ∃ z, z = ys.getD 2 0 := ⟨_, rfl⟩
    obtain ⟨y3, k3⟩ : ∃ z, z = ys.getD 3 0 := ⟨_, rfl⟩
    obtain ⟨y4, k4⟩ : ∃ z, z = ys.getD 4 0 := ⟨_, rfl⟩
    obtain ⟨y5, k5⟩ : ∃ z, z = ys.getD 5 0 := ⟨_, rfl⟩
    obtain ⟨y6, k6⟩ : ∃ z, z = ys.getD 6 0 := ⟨_, rfl⟩
    obtain ⟨y7, k7⟩ : ∃ z, z = ys.getD 7 0 := ⟨_, rfl⟩
    rw [← hm] at q0 HV2
    rw [← k0] at q1 HV2
    rw [← k1] at q2 HV2
    rw [← k2] at q3 HV2
    rw [← k3] at q4 HV2
    rw [← k4] at q5 HV2
    rw [← k5] at q6 HV2
    rw [← k6] at q7 HV2
    rw [← k7] at q8 HV2
    clear hg4 hb4 HB HS HZ HP SRC MIN FIT ONE SLE hm k0 k1 k2 k3 k4 k5 k6 k7 HBD GW SPE HV
    go_wp2_with fail
    refine bodyPost_ret (v := .agg #[.int .i64 m, .int .i64 y0, .int .i64 y1, .int .i64 y2, .int .i64 y3, .int .i64 y4, .int .i64 y5, .int .i64 y6, .int .i64 y7]) (by simp [results, Try.results64, go_sem, c0, c1, c2, c3, c4, c5, c6, c7, c8]) rfl ⟨by rw [HV2.out], ?_⟩
    exact bl_nine HB4.out (by omega) _ _ _ _ _ _ _ _ _
end Go.Proofs.Ytligidmkhbcpmaa
