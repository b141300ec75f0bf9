/- FreeGain in the program. -/
import Derived.Test.YtamneibnjbimeaaUnvI
import Derived.Test.YtamneibnjbimeaaRow
namespace Go.Proofs.Ytamneibnjbimeaa
open Go.RowKit
set_option linter.unusedVariables false
/-- The holdings that gain. -/
def fgL (ps cs : List Int) : List Int := (List.replicate ps.length 0).set (unI ps cs).toNat (if 0 < sdN ps cs (unI ps cs).toNat 0 ps.length then -1 else 1)
def ifU (ps ws cs : List Int) (L : List Int) : List Int := if (goodM ps ws cs && decide (0 ≤ unI ps cs)) = true then L else []
theorem fg_len (ps ws cs : List Int) : (ifU ps ws cs (fgL ps cs)).length ≤ 1048576 := by
  unfold ifU
  split
  · rename_i h
    rw [Bool.and_eq_true] at h
    unfold fgL
    rw [List.length_set, List.length_replicate]
    have := (goodM_iff.1 h.1).good.n24
    omega
  · simp
theorem un_at {ps cs : List Int} (h : 0 ≤ unI ps cs) : ∃ x : Nat, unI ps cs = (x : Int) ∧ x < ps.length := by
  rcases fstU_cases (unB ps cs) ps.length with ⟨e, _⟩ | ⟨k, hk, e, _⟩
  · have : unI ps cs = -1 := e
    omega
  · exact ⟨k, e, hk⟩
set_option maxRecDepth 100000 in
set_option maxHeartbeats 4000000 in
theorem freeI (ps ws cs : List Int) (v : Value) (w : World) (hn : cs.length ≤ 1048576) (h : MktV w w.heap.size v ps ws cs) :
    Calls Try.prog 31 #[v] w (NewIntsB (ifU ps ws cs (fgL ps cs)) (goodM ps ws cs && decide (0 ≤ unI ps cs)) w) := by
  have UC := Lib.hid (fun w' (hb : Below w.heap.size w w') => unevenI ps ws cs v w' hn (h.boxed hb))
  have SC := Lib.hid (fun (mk : Mkt ps ws cs) w' (hb : Below w.heap.size w w') => sidesI ps ws cs v w' mk (h.boxed hb))
  have UV : Hid (unV ps ws cs = if (goodM ps ws cs && decide (0 ≤ unI ps cs)) = true then .tuple #[.int .i64 (unI ps cs), .bool true] else .tuple #[.int .i64 0, .bool false]) := Lib.hid rfl
  have IU : Hid (ifU ps ws cs (fgL ps cs) = if (goodM ps ws cs && decide (0 ≤ unI ps cs)) = true then fgL ps cs else []) := Lib.hid rfl
  obtain ⟨p1, c1, p2, c2, p3, c3, rfl⟩ := h.shape
  clear h
  have B1 := Lib.hid ((Below.refl w.heap.size w).alloc (Nat.le_refl _) (.cells #[.slice p1 ps.length c1, .slice p2 ws.length c2, .slice p3 cs.length c3] 31))
  have T1 := Lib.hid (show KBox (w.alloc (.cells #[.slice p1 ps.length c1, .slice p2 ws.length c2, .slice p3 cs.length c3] 31)) w.heap.size (.slice p1 ps.length c1) (.slice p2 ws.length c2) (.slice p3 cs.length c3) from alloc_heap w _)
  obtain ⟨wa, hwa⟩ : ∃ wa, wa = w.alloc (.cells #[.slice p1 ps.length c1, .slice p2 ws.length c2, .slice p3 cs.length c3] 31) := ⟨_, rfl⟩
  rw [← hwa] at B1 T1
  obtain ⟨x0, x1, x2⟩ := T1.out.cells
  cases hk : (goodM ps ws cs && decide (0 ≤ unI ps cs))
  · rw [hk, if_neg (by decide)] at UV IU
    rw [UV.out] at UC
    rw [IU.out]
    clear hk UV IU SC
    go_enter Try.func31, Try.ntmps31
    go_wp2_with fail
    rw [← hwa]
    clear hwa
    refine (UC.out _ B1.out).mono ?_
    rintro e w1 ⟨rfl, b1⟩
    have HB1 := Lib.hid (B1.out.trans (b1.mono B1.out.size))
    clear b1
    go_wp2_with fail
    go_ret2
    exact newInts_empty HB1.out
  · have hk2 := hk
    rw [Bool.and_eq_true, decide_eq_true_iff] at hk2
    have mk := goodM_iff.1 hk2.1
    obtain ⟨x, hx, hxl⟩ := un_at hk2.2
    have SC2 := Lib.hid (SC.out mk)
    have n24 := mk.good.n24
    have le1 : cs.length ≤ ps.length := Nat.le_of_eq mk.len
    have le2 : ps.length ≤ cs.length := Nat.le_of_eq mk.len.symm
    have RL : Hid (List.replicate cs.length (0 : Int) = List.replicate ps.length 0) := Lib.hid (by rw [mk.len])
    have FG : Hid (fgL ps cs = (List.replicate ps.length 0).set x (if 0 < sdN ps cs x 0 ps.length then -1 else 1)) := Lib.hid (by unfold fgL; rw [hx, Int.toNat_natCast])
    have AT := Lib.hid (sdV_at ps cs (n := ps.length) (k := ps.length) (x := x) (f := 0) hxl (by omega))
    rw [Nat.add_zero] at AT
    rw [hk, if_pos rfl] at UV IU
    rw [UV.out, hx] at UC
    rw [IU.out, FG.out]
    generalize sdN ps cs x 0 ps.length = s0 at *
    clear hk hk2 UV IU FG SC mk hx
    obtain ⟨i0, hi, hz0, hz1, hz2⟩ := info_parts intInfo
    have c1' : i0.bytes * cs.length ≤ 281474976710656 := by rw [hz2]; omega
    have c2' : cs.length ≤ maxLen := by unfold maxLen; omega
    have i1 : (0 : Int) ≤ (x : Int) := by omega
    have i2 : (x : Int) < (cs.length : Int) := by omega
    have i3 : (x : Int) < (ps.length : Int) := by omega
    by_cases h0 : 0 < s0
    · have h0' : (0 : Int) < (s0 : Int) := by omega
      rw [if_pos h0]
      go_enter Try.func31, Try.ntmps31
      go_wp2_with fail
      rw [← hwa]
      clear hwa
      refine (UC.out _ B1.out).mono ?_
      rintro e w1 ⟨rfl, b1⟩
      have HB1 := Lib.hid (B1.out.trans (b1.mono B1.out.size))
      have U1 := Lib.hid (T1.out.below b1 T1.out.lt)
      obtain ⟨y0, y1, y2⟩ := U1.out.cells
      have hl1 : w.heap.size < w1.heap.size := U1.out.lt
      clear b1 x0 x1 x2 T1 B1 UC
      go_wp2_with (at_make; refine wpList_make_full _ rfl _ _ 22 rfl w1.heap.size 3 i0 (.int .i64 0) 1 Try.underlying22 hi hz0 hz1 .i64 .i64 _ _ cs.length rfl rfl rfl rfl c1' c2' (Nat.le_refl _) ?_; intro w3 hown hg2; (have hown1 : w3.ownsRow w1.heap.size 3 1 (.slice (some ⟨w1.heap.size, 0, none⟩) cs.length cs.length) cs.length (List.replicate cs.length (.int .i64 0)) := (by
          have h2 := hown
          rw [show (Value.int .i64 0).cells = #[Value.int .i64 0] from rfl, Nat.mul_one, toList_madeCells_one] at h2
          exact h2)); (have O2 := Lib.hid (OwnV.made hown1)); (have B2 := Lib.hid (HB1.out.grown hg2 HB1.out.size (fun q hq => by simp at hq))); (have T2 := Lib.hid (U1.out.grown hg2 (lo := w1.heap.size) (fun q hq => by simp at hq) hl1)); (have hfz := O2.out.frozenGet x); (have hcx := O2.out.cellGet (j := x) (by rw [List.length_replicate]; omega)); (have O3 := Lib.hid (O2.out.setAt x (x := 1) (by unfold InI64; omega))); (have B3 := Lib.hid (B2.out.setCell (p := ⟨w1.heap.size, x, none⟩) (show w.heap.size ≤ w1.heap.size by omega) (.int .i64 1))); (have T3 := Lib.hid (T2.out.set (g := w1.heap.size) (o := x) (x := .int .i64 1) (by omega))); (obtain ⟨t0, t1, t2⟩ := T3.out.cells); clear hown hown1 hg2)
      obtain ⟨w4, hw4⟩ : ∃ w4, w4 = w3.setCell ⟨w1.heap.size, x, none⟩ (.int .i64 1) := ⟨_, rfl⟩
      rw [← hw4] at O3 B3 T3 t0 t1 t2
      have hs4 : w3.heap.size = w4.heap.size := by rw [hw4]; simp [World.setCell]
      rw [hs4] at O3
      try rw [← hw4]
      clear hw4 hs4 O2 B2 T2 hfz hcx y0 y1 y2
      refine (SC2.out _ B3.out).mono ?_
      rintro e w5 ⟨g, rfl, hg1, hg2, b5⟩
      have HB5 := Lib.hid (B3.out.trans (b5.mono B3.out.size))
      have O5 := Lib.hid ((O3.out.below b5).wide b5.size (Nat.le_refl _))
      obtain ⟨cs0, _⟩ := sd_cell hg2 AT.out
      have hfz := O5.out.frozenGet x
      have hcx := O5.out.cellGet (j := x) (by rw [List.length_set, List.length_replicate]; omega)
      have O6 := Lib.hid (O5.out.setAt x (x := -1) (by unfold InI64; omega))
      have B6 := Lib.hid (HB5.out.setCell (p := ⟨w1.heap.size, x, none⟩) (show w.heap.size ≤ w1.heap.size by omega) (.int .i64 (-1)))
      have hs6 : (w5.setCell ⟨w1.heap.size, x, none⟩ (.int .i64 (-1))).heap.size = w5.heap.size := by simp [World.setCell]
      rw [List.set_set, RL.out, ← hs6] at O6
      rw [RL.out] at O5
      have LO : w.heap.size ≤ w1.heap.size := by omega
      have F6 := Lib.hid (O6.out.low LO)
      have F5 := Lib.hid (O5.out.low LO)
      clear hg1 hg2 b5 t0 t1 t2 B3 O3 T3 hs6 O5 O6
      go_wp2_with fail
      go_ret2
      exact ⟨_, rfl, F6.out, B6.out⟩
    · have h0' : ¬ (0 : Int) < (s0 : Int) := by omega
      rw [if_neg h0]
      go_enter Try.func31, Try.ntmps31
      go_wp2_with fail
      rw [← hwa]
      clear hwa
      refine (UC.out _ B1.out).mono ?_
      rintro e w1 ⟨rfl, b1⟩
      have HB1 := Lib.hid (B1.out.trans (b1.mono B1.out.size))
      have U1 := Lib.hid (T1.out.below b1 T1.out.lt)
      obtain ⟨y0, y1, y2⟩ := U1.out.cells
      have hl1 : w.heap.size < w1.heap.size := U1.out.lt
      clear b1 x0 x1 x2 T1 B1 UC
      go_wp2_with (at_make; refine wpList_make_full _ rfl _ _ 22 rfl w1.heap.size 3 i0 (.int .i64 0) 1 Try.underlying22 hi hz0 hz1 .i64 .i64 _ _ cs.length rfl rfl rfl rfl c1' c2' (Nat.le_refl _) ?_; intro w3 hown hg2; (have hown1 : w3.ownsRow w1.heap.size 3 1 (.slice (some ⟨w1.heap.size, 0, none⟩) cs.length cs.length) cs.length (List.replicate cs.length (.int .i64 0)) := (by
          have h2 := hown
          rw [show (Value.int .i64 0).cells = #[Value.int .i64 0] from rfl, Nat.mul_one, toList_madeCells_one] at h2
          exact h2)); (have O2 := Lib.hid (OwnV.made hown1)); (have B2 := Lib.hid (HB1.out.grown hg2 HB1.out.size (fun q hq => by simp at hq))); (have T2 := Lib.hid (U1.out.grown hg2 (lo := w1.heap.size) (fun q hq => by simp at hq) hl1)); (have hfz := O2.out.frozenGet x); (have hcx := O2.out.cellGet (j := x) (by rw [List.length_replicate]; omega)); (have O3 := Lib.hid (O2.out.setAt x (x := 1) (by unfold InI64; omega))); (have B3 := Lib.hid (B2.out.setCell (p := ⟨w1.heap.size, x, none⟩) (show w.heap.size ≤ w1.heap.size by omega) (.int .i64 1))); (have T3 := Lib.hid (T2.out.set (g := w1.heap.size) (o := x) (x := .int .i64 1) (by omega))); (obtain ⟨t0, t1, t2⟩ := T3.out.cells); clear hown hown1 hg2)
      obtain ⟨w4, hw4⟩ : ∃ w4, w4 = w3.setCell ⟨w1.heap.size, x, none⟩ (.int .i64 1) := ⟨_, rfl⟩
      rw [← hw4] at O3 B3 T3 t0 t1 t2
      have hs4 : w3.heap.size = w4.heap.size := by rw [hw4]; simp [World.setCell]
      rw [hs4] at O3
      try rw [← hw4]
      clear hw4 hs4 O2 B2 T2 hfz hcx y0 y1 y2
      refine (SC2.out _ B3.out).mono ?_
      rintro e w5 ⟨g, rfl, hg1, hg2, b5⟩
      have HB5 := Lib.hid (B3.out.trans (b5.mono B3.out.size))
      have O5 := Lib.hid ((O3.out.below b5).wide b5.size (Nat.le_refl _))
      obtain ⟨cs0, _⟩ := sd_cell hg2 AT.out
      have hfz := O5.out.frozenGet x
      have hcx := O5.out.cellGet (j := x) (by rw [List.length_set, List.length_replicate]; omega)
      have O6 := Lib.hid (O5.out.setAt x (x := -1) (by unfold InI64; omega))
      have B6 := Lib.hid (HB5.out.setCell (p := ⟨w1.heap.size, x, none⟩) (show w.heap.size ≤ w1.heap.size by omega) (.int .i64 (-1)))
      have hs6 : (w5.setCell ⟨w1.heap.size, x, none⟩ (.int .i64 (-1))).heap.size = w5.heap.size := by simp [World.setCell]
      rw [List.set_set, RL.out, ← hs6] at O6
      rw [RL.out] at O5
      have LO : w.heap.size ≤ w1.heap.size := by omega
      have F6 := Lib.hid (O6.out.low LO)
      have F5 := Lib.hid (O5.out.low LO)
      clear hg1 hg2 b5 t0 t1 t2 B3 O3 T3 hs6 O5 O6
      go_wp2_with fail
      go_ret2
      exact ⟨_, rfl, F5.out, HB5.out⟩
end Go.Proofs.Ytamneibnjbimeaa
