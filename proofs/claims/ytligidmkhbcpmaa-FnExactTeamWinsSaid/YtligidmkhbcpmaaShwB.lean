/- What throws have shown, in the program: first and last throws, words, and whether they are equal. -/
import Derived.Test.YtligidmkhbcpmaaShwI
import Derived.Test.YtligidmkhbcpmaaProcI
import Derived.ChangeKeysEq
import Derived.DeepKeys
import Derived.KernelRfl
namespace Go.Proofs.Ytligidmkhbcpmaa
open Go.RowKit
set_option linter.unusedVariables false
theorem sh_form (zs : List Int) : ∃ l z0 z1 z2 z3 z4 z5 z6 z7 : Int, l = zs.length ∧ shA zs = #[.int .i64 l, .int .i64 z0, .int .i64 z1, .int .i64 z2, .int .i64 z3, .int .i64 z4, .int .i64 z5, .int .i64 z6, .int .i64 z7] := ⟨_, _, _, _, _, _, _, _, _, rfl, rfl⟩
theorem nine_cells {w : World} {R : Nat} {l z0 z1 z2 z3 z4 z5 z6 z7 : Value} {T : TypeId} (h : w.heap[R]? = some (.cells #[l, z0, z1, z2, z3, z4, z5, z6, z7] T (0, 0))) :
    w.cell? ⟨R, 0, none⟩ = some l ∧ w.cell? ⟨R, 1, none⟩ = some z0 ∧ w.cell? ⟨R, 2, none⟩ = some z1 ∧ w.cell? ⟨R, 3, none⟩ = some z2 ∧ w.cell? ⟨R, 4, none⟩ = some z3 ∧ w.cell? ⟨R, 5, none⟩ = some z4 ∧ w.cell? ⟨R, 6, none⟩ = some z5 ∧ w.cell? ⟨R, 7, none⟩ = some z6 ∧ w.cell? ⟨R, 8, none⟩ = some z7 :=
  ⟨(cell_of_heap (o := 0) h rfl).1, (cell_of_heap (o := 1) h rfl).1, (cell_of_heap (o := 2) h rfl).1, (cell_of_heap (o := 3) h rfl).1, (cell_of_heap (o := 4) h rfl).1, (cell_of_heap (o := 5) h rfl).1, (cell_of_heap (o := 6) h rfl).1, (cell_of_heap (o := 7) h rfl).1, (cell_of_heap (o := 8) h rfl).1⟩
/-- A box of what is shown, and a result of zeros behind it. -/
theorem sz_setup (w : World) (zs : List Int) : ∃ wb, wb = (w.alloc (.cells (shA zs) 47)).alloc (.cells #[.int .i64 0, .int .i64 0, .int .i64 0, .int .i64 0, .int .i64 0, .int .i64 0, .int .i64 0, .int .i64 0, .int .i64 0] 47) ∧ SBox wb w.heap.size zs ∧ ZBox wb (w.heap.size + 1) ∧ Below w.heap.size w wb ∧ wb.heap.size = w.heap.size + 2 := by
  refine ⟨_, rfl, (SBox.new w zs).next ((Below.refl _ _).alloc (Nat.le_refl _) _), ?_, ((Below.refl w.heap.size w).alloc (Nat.le_refl _) _).alloc (by simp) _, by simp⟩
  have h := alloc_heap (w.alloc (.cells (shA zs) 47)) (.cells #[.int .i64 0, .int .i64 0, .int .i64 0, .int .i64 0, .int .i64 0, .int .i64 0, .int .i64 0, .int .i64 0, .int .i64 0] 47)
  rw [show (w.alloc (.cells (shA zs) 47)).heap.size = w.heap.size + 1 by simp] at h
  exact h
set_option maxRecDepth 100000 in
set_option maxHeartbeats 4000000 in
theorem firstC (zs : List Int) (k : Nat) (w : World) (hl : zs.length ≤ 8) (hk : k ≤ zs.length) : Calls Try.prog 65 #[shV zs, .int .i64 k] w (Gives (shV (zs.take k)) w) := by
  obtain ⟨wb, hwb, HS0, HZ0, HB0, SZ0⟩ := sz_setup w zs
  have HZ := Lib.hid HZ0
  have HB := Lib.hid HB0
  obtain ⟨zl, z0, z1, z2, z3, z4, z5, z6, z7, SAL, SA⟩ := sh_form (zs)
  obtain ⟨yl, y0, y1, y2, y3, y4, y5, y6, y7, SBL, SB⟩ := sh_form (zs.take k)
  have PC : Hid (∀ w, Calls Try.prog 64 #[shV zs, .int .i64 0, .int .i64 k] w (Gives (shV (zs.take k)) w)) := Lib.hid (fun w => by have h := partC zs 0 k w hl (Nat.zero_le _) hk (by omega); rw [List.drop_zero] at h; exact h)
  rw [show shV zs = .agg (shA zs) from rfl, show shV (zs.take k) = .agg (shA (zs.take k)) from rfl] at PC ⊢
  rw [SA] at hwb PC ⊢
  rw [SB] at PC ⊢
  unfold SBox at HS0
  rw [SA] at HS0
  obtain ⟨bc0, bc1, bc2, bc3, bc4, bc5, bc6, bc7, bc8⟩ := nine_cells HS0
  have lz := SZ0
  have ltz : w.heap.size + 1 < wb.heap.size := by omega
  clear HS0 HZ0 HB0 SZ0 SA SB SAL SBL lz
  go_enter Try.func65, Try.ntmps65
  go_wp2_with fail
  rw [← hwb]
  clear hwb
  refine (PC.out _).mono ?_
  rintro e w1 ⟨rfl, b1⟩
  have HZ1 := Lib.hid (HZ.out.below b1 ltz)
  have HB1 := Lib.hid (HB.out.trans (b1.mono HB.out.size))
  clear b1 bc0 bc1 bc2 bc3 bc4 bc5 bc6 bc7 bc8
  obtain ⟨c0, f0⟩ := HZ1.out.cells 0 (by omega)
  obtain ⟨c1, f1⟩ := HZ1.out.cells 1 (by omega)
  obtain ⟨c2, f2⟩ := HZ1.out.cells 2 (by omega)
  obtain ⟨c3, f3⟩ := HZ1.out.cells 3 (by omega)
  obtain ⟨c4, f4⟩ := HZ1.out.cells 4 (by omega)
  obtain ⟨c5, f5⟩ := HZ1.out.cells 5 (by omega)
  obtain ⟨c6, f6⟩ := HZ1.out.cells 6 (by omega)
  obtain ⟨c7, f7⟩ := HZ1.out.cells 7 (by omega)
  obtain ⟨c8, f8⟩ := HZ1.out.cells 8 (by omega)
  go_wp2_with fail
  refine bodyPost_ret (v := .agg #[.int .i64 yl, .int .i64 y0, .int .i64 y1, .int .i64 y2, .int .i64 y3, .int .i64 y4, .int .i64 y5, .int .i64 y6, .int .i64 y7]) (by simp [results, Try.results65, go_sem, c0, c1, c2, c3, c4, c5, c6, c7, c8]) rfl ⟨rfl, ?_⟩
  exact bl_nine HB1.out (by omega) _ _ _ _ _ _ _ _ _
set_option maxRecDepth 100000 in
set_option maxHeartbeats 4000000 in
theorem lastC (zs : List Int) (k : Nat) (w : World) (hl : zs.length ≤ 8) (hk : k ≤ zs.length) (h1 : 1 ≤ k) : Calls Try.prog 70 #[shV zs, .int .i64 k] w (Gives (shV (zs.drop (zs.length - k))) w) := by
  obtain ⟨wb, hwb, HS0, HZ0, HB0, SZ0⟩ := sz_setup w zs
  have HZ := Lib.hid HZ0
  have HB := Lib.hid HB0
  obtain ⟨zl, z0, z1, z2, z3, z4, z5, z6, z7, SAL, SA⟩ := sh_form (zs)
  obtain ⟨yl, y0, y1, y2, y3, y4, y5, y6, y7, SBL, SB⟩ := sh_form (zs.drop (zs.length - k))
  have PC : Hid (∀ w, Calls Try.prog 64 #[shV zs, .int .i64 (zl - (k : Int)), .int .i64 zl] w (Gives (shV (zs.drop (zs.length - k))) w)) := Lib.hid (fun w => by have h := partC zs (zs.length - k) zs.length w hl (by omega) (Nat.le_refl _) (by omega); rw [List.take_length, show ((zs.length - k : Nat) : Int) = zl - (k : Int) by omega, ← SAL] at h; exact h)
  rw [show shV zs = .agg (shA zs) from rfl, show shV (zs.drop (zs.length - k)) = .agg (shA (zs.drop (zs.length - k))) from rfl] at PC ⊢
  rw [SA] at hwb PC ⊢
  rw [SB] at PC ⊢
  unfold SBox at HS0
  rw [SA] at HS0
  obtain ⟨bc0, bc1, bc2, bc3, bc4, bc5, bc6, bc7, bc8⟩ := nine_cells HS0
  have lz := SZ0
  have ltz : w.heap.size + 1 < wb.heap.size := by omega
  have il : zl ≤ 8 := by omega
  have il0 : 0 ≤ zl := by omega
  have ik : (k : Int) ≤ zl := by omega
  clear HS0 HZ0 HB0 SZ0 SA SB SAL SBL lz
  go_enter Try.func70, Try.ntmps70
  go_wp2_with fail
  rw [← hwb]
  clear hwb
  refine (PC.out _).mono ?_
  rintro e w1 ⟨rfl, b1⟩
  have HZ1 := Lib.hid (HZ.out.below b1 ltz)
  have HB1 := Lib.hid (HB.out.trans (b1.mono HB.out.size))
  clear b1 bc0 bc1 bc2 bc3 bc4 bc5 bc6 bc7 bc8
  obtain ⟨c0, f0⟩ := HZ1.out.cells 0 (by omega)
  obtain ⟨c1, f1⟩ := HZ1.out.cells 1 (by omega)
  obtain ⟨c2, f2⟩ := HZ1.out.cells 2 (by omega)
  obtain ⟨c3, f3⟩ := HZ1.out.cells 3 (by omega)
  obtain ⟨c4, f4⟩ := HZ1.out.cells 4 (by omega)
  obtain ⟨c5, f5⟩ := HZ1.out.cells 5 (by omega)
  obtain ⟨c6, f6⟩ := HZ1.out.cells 6 (by omega)
  obtain ⟨c7, f7⟩ := HZ1.out.cells 7 (by omega)
  obtain ⟨c8, f8⟩ := HZ1.out.cells 8 (by omega)
  go_wp2_with fail
  refine bodyPost_ret (v := .agg #[.int .i64 yl, .int .i64 y0, .int .i64 y1, .int .i64 y2, .int .i64 y3, .int .i64 y4, .int .i64 y5, .int .i64 y6, .int .i64 y7]) (by simp [results, Try.results70, go_sem, c0, c1, c2, c3, c4, c5, c6, c7, c8]) rfl ⟨rfl, ?_⟩
  exact bl_nine HB1.out (by omega) _ _ _ _ _ _ _ _ _
theorem wf64s {z : Int} (h : InI64 z) : (Lit.int .i64 z).wf = true := by
  unfold InI64 at h
  exact WalkArith.wf_i64 (by omega)
/-- How a pair reads. -/
def intQ (v : Value) : Option Int :=
  match v with
  | .int .i64 a => some a
  | _ => none
theorem shCells : Try.prog.cellsOf 47 = 9 := by kernel_rfl
theorem arCells : Try.prog.cellsOf 45 = 8 := by kernel_rfl
theorem inCells : Try.prog.cellsOf 3 = 1 := by kernel_rfl
theorem shLits (al a0 a1 a2 a3 a4 a5 a6 a7 : Int) (h0 : InI64 al) (h1 : InI64 a0) (h2 : InI64 a1) (h3 : InI64 a2) (h4 : InI64 a3) (h5 : InI64 a4) (h6 : InI64 a5) (h7 : InI64 a6) (h8 : InI64 a7) : Try.prog.keyLits 3 47 [.int .i64 al, .int .i64 a0, .int .i64 a1, .int .i64 a2, .int .i64 a3, .int .i64 a4, .int .i64 a5, .int .i64 a6, .int .i64 a7] = some [.int .i64 al, .int .i64 a0, .int .i64 a1, .int .i64 a2, .int .i64 a3, .int .i64 a4, .int .i64 a5, .int .i64 a6, .int .i64 a7] := by
  have w0 := wf64s h0
  have w1 := wf64s h1
  have w2 := wf64s h2
  have w3 := wf64s h3
  have w4 := wf64s h4
  have w5 := wf64s h5
  have w6 := wf64s h6
  have w7 := wf64s h7
  have w8 := wf64s h8
  simp [Program.keyLits, Try.underlying47, Try.underlying45, Try.underlying3, shCells, arCells, inCells, List.range, List.range.loop, w0, w1, w2, w3, w4, w5, w6, w7, w8]
theorem eqLits (al a0 a1 a2 a3 a4 a5 a6 a7 bl b0 b1 b2 b3 b4 b5 b6 b7 : Int) (h0 : InI64 al) (h1 : InI64 a0) (h2 : InI64 a1) (h3 : InI64 a2) (h4 : InI64 a3) (h5 : InI64 a4) (h6 : InI64 a5) (h7 : InI64 a6) (h8 : InI64 a7) (k0 : InI64 bl) (k1 : InI64 b0) (k2 : InI64 b1) (k3 : InI64 b2) (k4 : InI64 b3) (k5 : InI64 b4) (k6 : InI64 b5) (k7 : InI64 b6) (k8 : InI64 b7) (w : World) :
    ∃ r : Bool, (Op.equalIn 10000 47 (.agg #[.int .i64 al, .int .i64 a0, .int .i64 a1, .int .i64 a2, .int .i64 a3, .int .i64 a4, .int .i64 a5, .int .i64 a6, .int .i64 a7]) (.agg #[.int .i64 bl, .int .i64 b0, .int .i64 b1, .int .i64 b2, .int .i64 b3, .int .i64 b4, .int .i64 b5, .int .i64 b6, .int .i64 b7])).run Try.prog w = .ok r w ∧ (r = true ↔ ([.int .i64 al, .int .i64 a0, .int .i64 a1, .int .i64 a2, .int .i64 a3, .int .i64 a4, .int .i64 a5, .int .i64 a6, .int .i64 a7] : List Lit) = [.int .i64 bl, .int .i64 b0, .int .i64 b1, .int .i64 b2, .int .i64 b3, .int .i64 b4, .int .i64 b5, .int .i64 b6, .int .i64 b7]) :=
  run_equalIn_deep 9997 3 47 (by kernel_rfl) w 3 3 _ _ _ _ (by simp [Value.formed, Try.underlying47, shCells]) (by simp [Value.formed, Try.underlying47, shCells]) (shLits al a0 a1 a2 a3 a4 a5 a6 a7 h0 h1 h2 h3 h4 h5 h6 h7 h8) (shLits bl b0 b1 b2 b3 b4 b5 b6 b7 k0 k1 k2 k3 k4 k5 k6 k7 k8)
theorem in64_getD {zs : List Int} (h : ∀ z ∈ zs, InI64 z) (i : Nat) : InI64 (zs.getD i 0) := by
  rcases Nat.lt_or_ge i zs.length with hi | hi
  · exact h _ (getD_memF hi)
  · rw [List.getD_eq_getElem?_getD, List.getElem?_eq_none hi]; unfold InI64; show _ ≤ (0 : Int) ∧ (0 : Int) ≤ _; omega
/-- The operation == tells lists apart. -/
theorem eqSh (a b : List Int) (ha : a.length ≤ 8) (hb : b.length ≤ 8) (ia : ∀ z ∈ a, InI64 z) (ib : ∀ z ∈ b, InI64 z) (w : World) :
    (Op.equalIn 10000 47 (shV a) (shV b)).run Try.prog w = .ok (decide (a = b)) w := by
  obtain ⟨r, hr, hiff⟩ := eqLits (a.length : Int) (a.getD 0 0) (a.getD 1 0) (a.getD 2 0) (a.getD 3 0) (a.getD 4 0) (a.getD 5 0) (a.getD 6 0) (a.getD 7 0) (b.length : Int) (b.getD 0 0) (b.getD 1 0) (b.getD 2 0) (b.getD 3 0) (b.getD 4 0) (b.getD 5 0) (b.getD 6 0) (b.getD 7 0) (by unfold InI64; omega) (in64_getD ia 0) (in64_getD ia 1) (in64_getD ia 2) (in64_getD ia 3) (in64_getD ia 4) (in64_getD ia 5) (in64_getD ia 6) (in64_getD ia 7) (by unfold InI64; omega) (in64_getD ib 0) (in64_getD ib 1) (in64_getD ib 2) (in64_getD ib 3) (in64_getD ib 4) (in64_getD ib 5) (in64_getD ib 6) (in64_getD ib 7) w
  have e : r = decide (a = b) := by
    rw [Bool.eq_iff_iff, hiff, decide_eq_true_iff]
    constructor
    · intro h
      refine sh_inj ha hb ?_
      simp only [List.cons.injEq, Lit.int.injEq, true_and, and_true] at h
      simp only [shL, List.cons.injEq, and_true]
      exact h
    · intro h; rw [h]
  rw [← e]
  exact hr
end Go.Proofs.Ytligidmkhbcpmaa
