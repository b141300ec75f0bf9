/- The searches over people, in the program: the ends, the options and the next states. -/
import Derived.Test.YtnpiciabpgkiiadQstP
import Derived.Test.YtnpiciabpgkiiadMapQ
import Derived.Test.YtnpiciabpgkiiadRes
import Derived.Test.YtnpiciabpgkiiadFracB
import Derived.Test.YtnpiciabpgkiiadCntR
namespace Go.Proofs.Ytnpiciabpgkiiad
open Go.RowKit
set_option linter.unusedVariables false
/-- A box of a state. -/
def CB (w : World) (R : Nat) (c r : Int) : Prop := w.heap[R]? = some (.cells #[.int .i64 c, .int .i64 r] 128 (0, 0))
theorem CB.below {w w1 : World} {R C : Nat} {a b : Int} (h : CB w R a b) (hb : Below C w w1) (hR : R < C) : CB w1 R a b := (hb.block R hR).trans h
theorem CB.lt {w : World} {R : Nat} {a b : Int} (h : CB w R a b) : R < w.heap.size := by unfold CB at h; exact (Array.getElem?_eq_some_iff.1 h).1
theorem CB.cells {w : World} {R : Nat} {a b : Int} (h : CB w R a b) : w.cell? ⟨R, 0, none⟩ = some (.int .i64 a) ∧ w.cell? ⟨R, 1, none⟩ = some (.int .i64 b) :=
  ⟨(cell_of_heap (o := 0) h rfl).1, (cell_of_heap (o := 1) h rfl).1⟩
theorem cut_zero0 {b : Int} (h : 0 < b) : cutN 0 b = 0 ∧ cutD 0 b = 1 := by
  have g : gI 0 b = b := by unfold gI; rw [Int.gcd_zero_left]; omega
  unfold cutN cutD
  rw [g]
  exact ⟨Int.zero_ediv _, Int.ediv_self (by omega)⟩
theorem rank_kept {n c r : Nat} (hn : 1 ≤ n ∧ n ≤ 10) (hc : c ≤ n) (hr : r ≤ c) : keptV (cutN (-(r : Int) * (n + 1)) (c + 1)) (cutD (-(r : Int) * (n + 1)) (c + 1)) = .tuple #[.agg #[.int .i64 (cutN (-(r : Int) * (n + 1)) (c + 1)), .int .i64 (cutD (-(r : Int) * (n + 1)) (c + 1))], .bool true] := by
  refine if_pos ?_
  by_cases h0 : c = 0
  · subst h0
    obtain rfl : r = 0 := by omega
    have := cut_zero0 (b := ((0 : Nat) : Int) + 1) (by omega)
    rw [show -((0 : Nat) : Int) * ((n : Int) + 1) = 0 by simp, this.1, this.2]; rfl
  · have h := (q2Ok hn.1 hn.2).fe c (by omega) r (by omega)
    unfold qEnd at h
    rw [if_neg (by omega), if_neg h0] at h
    unfold isFr at h
    simp only [Bool.and_eq_true] at h
    exact h.1
set_option maxRecDepth 100000 in
set_option maxHeartbeats 2000000 in
theorem endR (n c r : Nat) (w : World) (hn : 1 ≤ n ∧ n ≤ 10) (hc : c ≤ n) (hr : r ≤ c) :
    Calls Try.prog 305 #[.agg #[.int .i64 n], .agg #[.int .i64 c, .int .i64 r]] w (Gives (.tuple #[.agg #[.int .i64 (cutN (-(r : Int) * (n + 1)) (c + 1)), .int .i64 (cutD (-(r : Int) * (n + 1)) (c + 1))], .bool (decide (0 < (c : Int)))]) w) := by
  have m1 : (r : Int) * (n + 1) ≤ 10 * 11 := Int.mul_le_mul (by omega) (by omega) (by omega) (by omega)
  have m0 : 0 ≤ (r : Int) * (n + 1) := Int.mul_nonneg (by omega) (by omega)
  have RD := Lib.hid (fun w => reduceI_any (-(r : Int) * (n + 1)) (c + 1) w (by rw [Int.neg_mul]; omega) (by omega))
  rw [rank_kept hn hc hr] at RD
  have WR : IntKind.i64.wrap (-(r : Int) * ((n : Int) + 1)) = -(r : Int) * ((n : Int) + 1) := IntWalk.i64_in _ (by rw [Int.neg_mul]; omega)
  have i1 : (n : Int) ≤ 10 := by omega
  have i2 : (c : Int) ≤ 10 := by omega
  have i3 : (r : Int) ≤ 10 := by omega
  obtain ⟨wa, hwa⟩ : ∃ wa, wa = ((w.alloc (.cells #[.int .i64 n] 135)).alloc (.cells #[.int .i64 c, .int .i64 r] 128)).alloc (.cells #[.int .i64 0, .int .i64 0] 39) := ⟨_, rfl⟩
  have B3 : Below w.heap.size w wa := by rw [hwa]; exact (((Below.refl w.heap.size w).alloc (Nat.le_refl _) _).alloc (by simp) _).alloc (by simp; omega) _
  obtain ⟨k0, k1, k2⟩ := heap_three w (.cells #[.int .i64 n] 135) (.cells #[.int .i64 c, .int .i64 r] 128) (.cells #[.int .i64 0, .int .i64 0] 39)
  rw [← hwa] at k0 k1 k2
  have x0 := (cell_of_heap (o := 0) k0 rfl).1
  have T1 := Lib.hid (show CB wa (w.heap.size + 1) c r from k1)
  have T2 := Lib.hid (show QBox wa (w.heap.size + 1 + 1) 0 0 from k2)
  have S3 : w.heap.size + 1 + 1 + 1 = wa.heap.size := by rw [hwa]; simp
  clear k0 k1 k2
  obtain ⟨y0, y1⟩ := T1.out.cells
  generalize cutN (-(r : Int) * (n + 1)) (c + 1) = p at *
  generalize cutD (-(r : Int) * (n + 1)) (c + 1) = q at *
  clear m0 m1 hn hc hr
  go_enter Try.func305, Try.ntmps305
  go_wp2_with fail
  rw [← hwa]
  clear hwa
  refine (RD.out _).mono ?_
  rintro e w1 ⟨rfl, b1⟩
  obtain ⟨y0', y1'⟩ := (T1.out.below b1 T1.out.lt).cells
  obtain ⟨⟨c0, c1⟩, f0, f1⟩ := (T2.out.below b1 T2.out.lt).cells
  have HB := Lib.hid (bl_then B3 b1)
  have hs := b1.size
  clear b1 x0 y0 y1
  have HE := Lib.hid (bl_st (HB.out.alloc HB.out.size (.cells #[.int .i64 p, .int .i64 q] 39)) (g := w.heap.size + 1 + 1) (by omega) (.int .i64 p) (.int .i64 q))
  have S3' := Lib.hid S3
  have hs' := Lib.hid hs
  go_wp2_with fail
  obtain ⟨w2, hw2⟩ : ∃ w2, w2 = w1.alloc (.cells #[.int .i64 p, .int .i64 q] 39) := ⟨_, rfl⟩
  have Q2 : QBox w2 w1.heap.size p q := by rw [hw2]; exact QBox.new w1 p q
  have BA : Below w1.heap.size w1 w2 := by rw [hw2]; exact (Below.refl _ _).alloc (Nat.le_refl _) _
  have y2 : w2.cell? ⟨w.heap.size + 1, 0, none⟩ = some (.int .i64 c) := (BA.cell (p := ⟨w.heap.size + 1, 0, none⟩) (show w.heap.size + 1 < w1.heap.size by omega)).trans y0'
  obtain ⟨⟨z0, z1⟩, _, _⟩ := Q2.cells
  have d0 : w2.cell? ⟨w.heap.size + 1 + 1, 0, none⟩ = some (.int .i64 0) := (BA.cell (p := ⟨w.heap.size + 1 + 1, 0, none⟩) (show w.heap.size + 1 + 1 < w1.heap.size by omega)).trans c0
  have d1 : w2.cell? ⟨w.heap.size + 1 + 1, 1, none⟩ = some (.int .i64 0) := (BA.cell (p := ⟨w.heap.size + 1 + 1, 1, none⟩) (show w.heap.size + 1 + 1 < w1.heap.size by omega)).trans c1
  have g0 : w2.frozen? ⟨w.heap.size + 1 + 1, 0, none⟩ = false := (BA.frozen (p := ⟨w.heap.size + 1 + 1, 0, none⟩) (show w.heap.size + 1 + 1 < w1.heap.size by omega)).trans f0
  have g1 : w2.frozen? ⟨w.heap.size + 1 + 1, 1, none⟩ = false := (BA.frozen (p := ⟨w.heap.size + 1 + 1, 1, none⟩) (show w.heap.size + 1 + 1 < w1.heap.size by omega)).trans f1
  rw [← hw2] at HE ⊢
  clear hw2 y0' y1' c0 c1 f0 f1 BA
  have n1 : w.heap.size + 1 ≠ w.heap.size + 1 + 1 := by omega
  have n2 : w1.heap.size ≠ w.heap.size + 1 + 1 := by omega
  go_region
  all_goals
    go_wp2_with fail
    refine bodyPost_ret (v := .tuple #[.agg #[.int .i64 p, .int .i64 q], .bool (decide (0 < (c : Int)))]) (by simp [results, Try.results305, go_sem, d0, d1]) rfl ⟨rfl, ?_⟩
    first | exact HE.out | exact below_drew HE.out
set_option maxRecDepth 100000 in
set_option maxHeartbeats 2000000 in
theorem nextC (B c r i : Nat) (w : World) (h : CB w B c r) (hc : c ≤ 10) (hi : i ≤ 10) :
    Calls Try.prog 300 #[.int .i64 i, .pointer (some ⟨B, 0, none⟩)] w (Gives (.agg #[.int .i64 (c + 1), .int .i64 (i + 1)]) w) := by
  have i1 : (i : Int) ≤ 10 := by omega
  have i2 : (c : Int) ≤ 10 := by omega
  obtain ⟨y0, y1⟩ := h.cells
  have hl := h.lt
  have RE := Lib.hid ((Below.refl w.heap.size w).alloc (Nat.le_refl _) (.cells #[.int .i64 ((c : Int) + 1), .int .i64 ((i : Int) + 1)] 128))
  have x0 : (w.alloc (.cells #[.int .i64 0, .int .i64 0] 128)).cell? ⟨B, 0, none⟩ = some (.int .i64 c) := (((Below.refl w.heap.size w).alloc (Nat.le_refl _) _).cell (p := ⟨B, 0, none⟩) hl).trans y0
  have K := alloc_heap w (.cells #[.int .i64 ((c : Int) + 1), .int .i64 ((i : Int) + 1)] 128)
  have z0 := (cell_of_heap (o := 0) K rfl).1
  have z1 := (cell_of_heap (o := 1) K rfl).1
  clear K h
  go_enter Try.func300, Try.ntmps300
  go_wp2_with fail
  refine bodyPost_ret (v := .agg #[.int .i64 (c + 1), .int .i64 (i + 1)]) (by simp [results, Try.results300, go_sem, z0, z1]) rfl ⟨rfl, ?_⟩
  exact RE.out
/-- One way to go on lies at the block P. -/
structure WayC (w : World) (lo P : Nat) (c r : Nat) : Prop where
  ex : ∃ q cw B : Nat, lo ≤ P ∧ lo ≤ q ∧ lo ≤ B ∧ P < w.heap.size ∧ q < w.heap.size ∧ CB w B c r ∧ w.cell? ⟨P, 0, none⟩ = some (.int .i64 0) ∧ w.cell? ⟨P, 1, none⟩ = some (.slice (some ⟨q, 0, none⟩) (c + 1) cw) ∧ w.cell? ⟨P, 2, none⟩ = some (.func (.func 300) #[] #[.pointer (some ⟨B, 0, none⟩)]) ∧ ∀ i, i < c + 1 → w.cell? ⟨q, i, none⟩ = some (.int .i64 1)
set_option maxRecDepth 100000 in
set_option maxHeartbeats 2000000 in
theorem optC (n c r : Nat) (w : World) (hn : n ≤ 10) (hc : c < n) :
    Calls Try.prog 298 #[.int .i64 n, .agg #[.int .i64 c, .int .i64 r]] w fun e w' => ∃ P cp, e = .returned (.slice (some ⟨P, 0, none⟩) 1 cp) ∧ WayC w' w.heap.size P c r ∧ Below w.heap.size w w' := by
  have hmf : ∀ (fn : Fn) (first cap : Array Value) (w : World), (Instr.makeFunc fn first cap).run Try.prog w = .ok (.func fn first cap) w := fun _ _ _ _ => rfl
  have i1 : (n : Int) ≤ 10 := by omega
  have i2 : (c : Int) < n := by omega
  have ne : ¬ (c : Int) = (n : Int) := by omega
  obtain ⟨wa, hwa⟩ : ∃ wa, wa = w.alloc (.cells #[.int .i64 c, .int .i64 r] 128) := ⟨_, rfl⟩
  have T1 := Lib.hid (show CB wa w.heap.size c r by rw [hwa]; exact alloc_heap w _)
  have S1 : wa.heap.size = w.heap.size + 1 := by rw [hwa]; simp
  have BA : Below w.heap.size w wa := by rw [hwa]; exact (Below.refl w.heap.size w).alloc (Nat.le_refl _) _
  obtain ⟨y0, y1⟩ := T1.out.cells
  obtain ⟨wb, hwb⟩ : ∃ wb, wb = wa.alloc (.cells #[.int .i64 1] 3) := ⟨_, rfl⟩
  have S2 : wb.heap.size = wa.heap.size + 1 := by rw [hwb]; simp
  have cone : wb.cell? ⟨wa.heap.size, 0, none⟩ = some (.int .i64 1) := by rw [hwb]; exact (cell_of_heap (o := 0) (alloc_heap wa _) rfl).1
  have BB : Below wa.heap.size wa wb := by rw [hwb]; exact (Below.refl _ _).alloc (Nat.le_refl _) _
  have T2 := Lib.hid (T1.out.below BB (by omega))
  have RP := Lib.hid (repeatI (c + 1) wa.heap.size 1 wb (by omega) (by omega) cone (by omega))
  clear cone
  have HB := Lib.hid (bl_then BA BB)
  obtain ⟨u0, u1⟩ := T2.out.cells
  go_enter Try.func298, Try.ntmps298
  go_wp2_with fail
  rw [← hwa]
  clear hwa
  rw [← hwb]
  clear hwb
  rw [S1, show (((c + 1 : Nat)) : Int) = (c : Int) + 1 by omega] at RP
  refine RP.out.mono ?_
  rintro e w1 ⟨u, rfl, o1, b1⟩
  obtain ⟨gb, ce, rfl, hg1, hg2⟩ := o1.shape (by simp)
  rw [show (List.replicate (c + 1) (1 : Int)).length = c + 1 by simp] at o1 ⊢
  have O1 := Lib.hid o1
  have HB1 := Lib.hid (bl_then HB.out b1)
  have T3 := Lib.hid (T2.out.below b1 T2.out.lt)
  have hs := b1.size
  have W1 : ∀ i, i < c + 1 → w1.cell? ⟨gb, i, none⟩ = some (.int .i64 1) := fun i hi => by
    rw [O1.out.cellGet (j := i) (by simp; omega), List.getD_eq_getElem?_getD, List.getElem?_replicate, if_pos hi]; rfl
  clear b1 o1 u0 u1 y0 y1
  go_wp2_with fail
  go_ret
  have hq := T3.out.lt
  refine ⟨_, _, rfl, ⟨⟨gb, ce, w.heap.size, by omega, by omega, Nat.le_refl _, by simp, by simp; omega, ?_, ?_, ?_, ?_, fun i hi => ?_⟩⟩, HB1.out.alloc HB1.out.size _⟩
  · exact T3.out.below ((Below.refl w1.heap.size w1).alloc (Nat.le_refl _) _) hq
  · exact (cell_of_heap (o := 0) (alloc_heap w1 _) rfl).1
  · exact (cell_of_heap (o := 1) (alloc_heap w1 _) rfl).1
  · exact (cell_of_heap (o := 2) (alloc_heap w1 _) rfl).1
  · exact (((Below.refl w1.heap.size w1).alloc (Nat.le_refl _) _).cell (p := ⟨gb, i, none⟩) hg2).trans (W1 i hi)
end Go.Proofs.Ytnpiciabpgkiiad
