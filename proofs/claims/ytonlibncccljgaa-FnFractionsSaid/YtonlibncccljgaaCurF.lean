/- The fractions that the laws draw: some pair; nothing that lay before is turned but the cursor. -/
import Derived.Test.YtonlibncccljgaaCurA
import Derived.Test.YtonlibncccljgaaFracC
namespace Go.Proofs.Ytonlibncccljgaa
open Go.RowKit
set_option linter.unusedVariables false
/-- A block of a pair. -/
def RB (w : World) (R : Nat) (a b : Int) : Prop := w.heap[R]? = some (.cells #[.int .i64 a, .int .i64 b] 55 (0, 0))
theorem RB.lt {w : World} {R : Nat} {a b : Int} (h : RB w R a b) : R < w.heap.size := by unfold RB at h; exact (Array.getElem?_eq_some_iff.1 h).1
theorem RB.cells {w : World} {R : Nat} {a b : Int} (h : RB w R a b) : w.cell? ⟨R, 0, none⟩ = some (.int .i64 a) ∧ w.cell? ⟨R, 1, none⟩ = some (.int .i64 b) ∧ w.frozen? ⟨R, 0, none⟩ = false ∧ w.frozen? ⟨R, 1, none⟩ = false :=
  ⟨(cell_of_heap (o := 0) h rfl).1, (cell_of_heap (o := 1) h rfl).1, (cell_of_heap (o := 0) h rfl).2, (cell_of_heap (o := 1) h rfl).2⟩
theorem RB.grown {w w' : World} {R a : Nat} {x y : Int} (h : RB w R x y) (hg : w.grownBy w' (some a)) (hne : R ≠ a) : RB w' R x y := (hg.block R h.lt (fun e => by injection e; omega)).trans h
theorem RB.below {w w' : World} {R : Nat} {x y : Int} (h : RB w R x y) (hb : Below w.heap.size w w') : RB w' R x y := (hb.block R h.lt).trans h
theorem RB.below' {w w' : World} {R C : Nat} {x y : Int} (h : RB w R x y) (hb : Below C w w') (hR : R < C) : RB w' R x y := (hb.block R hR).trans h
theorem RB.st {w : World} {R : Nat} {a b x y : Int} (h : RB w R a b) : RB ((w.setCell ⟨R, 0, none⟩ (.int .i64 x)).setCell ⟨R, 1, none⟩ (.int .i64 y)) R x y :=
  row_set (L := [.int .i64 x, .int .i64 b]) (j := 1) (row_set (L := [.int .i64 a, .int .i64 b]) (j := 0) h)
theorem RB.far {w : World} {R g o p : Nat} {a b : Int} {u v : Value} (h : RB w R a b) (hne : R ≠ g) : RB ((w.setCell ⟨g, o, none⟩ u).setCell ⟨g, p, none⟩ v) R a b := by
  unfold RB; rw [heap_setCell_other _ _ _ _ hne, heap_setCell_other _ _ _ _ hne]; exact h
theorem RB.new (w : World) (a b : Int) : RB (w.alloc (.cells #[.int .i64 a, .int .i64 b] 55)) w.heap.size a b := alloc_heap w _
/-- What stands while a fraction is drawn. -/
structure FS (w : World) (R a : Nat) (p : Option Addr) (n c k : Nat) (wx : World) : Prop where
  cur : CurAt wx a p n c k
  byt : BytesAt wx a p n
  gr : w.grownBy wx (some a)
  bx : RB wx R 0 0
  ne : R ≠ a
  hR : w.heap.size ≤ R
theorem FS.next {w wx wy : World} {R a n c k d : Nat} {p : Option Addr} (h : FS w R a p n c k wx) (q : CurPost wx a p n c k d wy) : ∃ k', k' ≤ k + d ∧ FS w R a p n c k' wy := by
  obtain ⟨⟨k', hk, hc⟩, hg⟩ := q
  exact ⟨k', hk, hc, h.byt.turned (Nat.le_refl _) hg, grown_then h.gr hg, h.bx.grown hg h.ne, h.ne, h.hR⟩
theorem FS.alloc {w wx : World} {R a n c k : Nat} {p : Option Addr} (h : FS w R a p n c k wx) (o : Obj) : FS w R a p n c k (wx.alloc o) :=
  ⟨h.cur.alloc o, h.byt.alloc o, grown_then h.gr (grown_alloc _ _ _), h.bx.grown (grown_alloc _ o (some a)) h.ne, h.ne, h.hR⟩
theorem grown_below {w wx : World} (hb : Below w.heap.size w wx) (r : Option Nat) : w.grownBy wx r := ⟨hb.os, hb.tape, hb.output, hb.size, fun i hi _ => hb.block i hi⟩
theorem CurAt.below {w wx : World} {a n c k : Nat} {p : Option Addr} (h : CurAt w a p n c k) (hb : Below w.heap.size w wx) : CurAt wx a p n c k := by
  have hr := h.room
  obtain ⟨s, s0, s1, hh⟩ := h
  exact ⟨s, s0, s1, (hb.block a hr).trans hh⟩
theorem FS.below {w wx wy : World} {R a n c k : Nat} {p : Option Addr} (h : FS w R a p n c k wx) (hb : Below wx.heap.size wx wy) : FS w R a p n c k wy :=
  ⟨h.cur.below hb, h.byt.turned (Nat.le_refl _) (grown_below hb _), grown_then h.gr (grown_below hb _), h.bx.below hb, h.ne, h.hR⟩
theorem CurAt.far {w : World} {a n c k g o q : Nat} {p : Option Addr} {u v : Value} (h : CurAt w a p n c k) (hne : a ≠ g) : CurAt ((w.setCell ⟨g, o, none⟩ u).setCell ⟨g, q, none⟩ v) a p n c k := by
  obtain ⟨s, s0, s1, hh⟩ := h
  exact ⟨s, s0, s1, by rw [heap_setCell_other _ _ _ _ hne, heap_setCell_other _ _ _ _ hne]; exact hh⟩
theorem grown_set2 {w wx : World} {r : Option Nat} {g o q : Nat} {u v : Value} (h : w.grownBy wx r) (hg : w.heap.size ≤ g) : w.grownBy ((wx.setCell ⟨g, o, none⟩ u).setCell ⟨g, q, none⟩ v) r := by
  refine ⟨h.os, h.tape, h.output, by simpa using h.size, fun i hi hr => ?_⟩
  have hne : i ≠ g := by omega
  rw [heap_setCell_other _ _ _ _ hne, heap_setCell_other _ _ _ _ hne]; exact h.block i hi hr
theorem FS.fin {w wx : World} {R a n c k k0 : Nat} {p : Option Addr} {x y : Int} (h : FS w R a p n c k wx) (hk : k ≤ k0 + 20) : CurPost w a p n c k0 20 ((wx.setCell ⟨R, 0, none⟩ (.int .i64 x)).setCell ⟨R, 1, none⟩ (.int .i64 y)) :=
  ⟨⟨k, hk, h.cur.far (fun e => h.ne e.symm)⟩, grown_set2 h.gr h.hR⟩
/-- Some pair. -/
def APair (e : Ending) : Prop := ∃ x y : Int, e = .returned (.agg #[.int .i64 x, .int .i64 y])
set_option maxRecDepth 100000 in
set_option maxHeartbeats 4000000 in
theorem fraction_any (a n c k : Nat) (p : Option Addr) (w : World) (hk : k ≤ 800000) (hn : n ≤ 65536) (hC : CurAt w a p n c k) (hB : BytesAt w a p n) :
    Calls Try.prog 102 #[.pointer (some ⟨a, 0, none⟩)] w fun e w' => APair e ∧ CurPost w a p n c k 20 w' := by
  have hr := hC.room
  have S0 : FS w w.heap.size a p n c k (w.alloc (.cells #[.int .i64 0, .int .i64 0] 55)) := ⟨hC.alloc _, hB.alloc _, grown_alloc _ _ _, RB.new _ _ _, by omega, Nat.le_refl _⟩
  obtain ⟨R, hR⟩ : ∃ R, R = w.heap.size := ⟨_, rfl⟩
  rw [← hR] at S0
  obtain ⟨wa, hwa⟩ : ∃ wa, wa = w.alloc (.cells #[.int .i64 0, .int .i64 0] 55) := ⟨_, rfl⟩
  rw [← hwa] at S0
  have S := Lib.hid S0
  clear hC hB S0
  go_enter Try.func102, Try.ntmps102
  go_wp2_with fail
  change Calls _ _ _ (w.alloc (.cells #[.int .i64 0, .int .i64 0] 55)) _
  rw [← hwa, ← hR]
  clear hwa hR
  refine (one_any a n c k p 24 _ (by omega) (by omega) (by omega) hn S.out.cur S.out.byt).mono ?_
  rintro e w1 ⟨⟨b1, rfl⟩, hp⟩
  obtain ⟨k1, hk1, T⟩ := S.out.next hp
  have S1 := Lib.hid T
  clear hp T S
  cases b1
  · go_wp2_with fail
    refine (pick_any a n c k1 p 40 _ (by omega) (by omega) (by omega) hn S1.out.cur S1.out.byt).mono ?_
    rintro e w2 ⟨⟨r2, q0, q1, rfl⟩, hp⟩
    obtain ⟨k2, hk2, T⟩ := S1.out.next hp
    have S2 := Lib.hid T
    clear hp T S1
    go_wp2_with fail
    refine (pick_any a n c k2 p 12 _ (by omega) (by omega) (by omega) hn S2.out.cur S2.out.byt).mono ?_
    rintro e w3 ⟨⟨r3, q2, q3, rfl⟩, hp⟩
    obtain ⟨k3, hk3, T⟩ := S2.out.next hp
    have S3 := Lib.hid T
    clear hp T S2
    go_wp2_with fail
    refine (one_any a n c k3 p 6 _ (by omega) (by omega) (by omega) hn S3.out.cur S3.out.byt).mono ?_
    rintro e w4 ⟨⟨b4, rfl⟩, hp⟩
    obtain ⟨k4, hk4, T⟩ := S3.out.next hp
    have S4 := Lib.hid T
    clear hp T S3
    cases b4
    · skip
      go_wp2_with fail
      refine (one_any a n c k4 p 16 _ (by omega) (by omega) (by omega) hn S4.out.cur S4.out.byt).mono ?_
      rintro e w5 ⟨⟨b5, rfl⟩, hp⟩
      obtain ⟨k5, hk5, T⟩ := S4.out.next hp
      have S5 := Lib.hid T
      clear hp T S4
      cases b5
      · go_wp2_with fail
        refine (cutS (r2 - 15) (1 + r3) _ (by omega) (by omega)).mono ?_
        rintro e w6 ⟨rfl, b9⟩
        have S6 := Lib.hid (S5.out.below b9)
        clear b9 S5
        obtain ⟨N, hN⟩ : ∃ N, N = cutN (r2 - 15) (1 + r3) := ⟨_, rfl⟩
        obtain ⟨D, hD⟩ : ∃ D, D = cutD (r2 - 15) (1 + r3) := ⟨_, rfl⟩
        rw [← hN, ← hD]
        clear hN hD
        have hk6 := hk5
        have FIN : Hid (CurPost w a p n c k 20 ((w6.setCell ⟨R, 0, none⟩ (.int .i64 N)).setCell ⟨R, 1, none⟩ (.int .i64 D))) := Lib.hid (S6.out.fin (by omega))
        obtain ⟨t0, t1, f0, f1⟩ := S6.out.bx.cells
        clear S6
        go_wp2_with fail
        refine bodyPost_ret (v := .agg #[.int .i64 N, .int .i64 D]) (by simp [results, Try.results102, go_sem, t0, t1]) rfl ⟨⟨_, _, rfl⟩, FIN.out⟩
      · skip
        have FIN : Hid (CurPost w a p n c k 20 ((w5.setCell ⟨R, 0, none⟩ (.int .i64 (r2 - 15))).setCell ⟨R, 1, none⟩ (.int .i64 (1 + r3)))) := Lib.hid (S5.out.fin (by omega))
        obtain ⟨t0, t1, f0, f1⟩ := S5.out.bx.cells
        clear S5
        go_wp2_with fail
        refine bodyPost_ret (v := .agg #[.int .i64 (r2 - 15), .int .i64 (1 + r3)]) (by simp [results, Try.results102, go_sem, t0, t1]) rfl ⟨⟨_, _, rfl⟩, FIN.out⟩
    · clear q0 q1 q2 q3
      go_wp2_with fail
      refine (pick_any a n c k4 p 2000000 _ (by omega) (by omega) (by omega) hn S4.out.cur S4.out.byt).mono ?_
      rintro e w5 ⟨⟨r5, q0, q1, rfl⟩, hp⟩
      obtain ⟨k5, hk5, T⟩ := S4.out.next hp
      have S5 := Lib.hid T
      clear hp T S4
      go_wp2_with fail
      refine (pick_any a n c k5 p 1000000 _ (by omega) (by omega) (by omega) hn S5.out.cur S5.out.byt).mono ?_
      rintro e w6 ⟨⟨r6, q2, q3, rfl⟩, hp⟩
      obtain ⟨k6, hk6, T⟩ := S5.out.next hp
      have S6 := Lib.hid T
      clear hp T S5
      go_wp2_with fail
      refine (one_any a n c k6 p 16 _ (by omega) (by omega) (by omega) hn S6.out.cur S6.out.byt).mono ?_
      rintro e w7 ⟨⟨b7, rfl⟩, hp⟩
      obtain ⟨k7, hk7, T⟩ := S6.out.next hp
      have S7 := Lib.hid T
      clear hp T S6
      cases b7
      · go_wp2_with fail
        refine (cutS (r5 - 1000000) (1 + r6) _ (by omega) (by omega)).mono ?_
        rintro e w8 ⟨rfl, b9⟩
        have S8 := Lib.hid (S7.out.below b9)
        clear b9 S7
        obtain ⟨N, hN⟩ : ∃ N, N = cutN (r5 - 1000000) (1 + r6) := ⟨_, rfl⟩
        obtain ⟨D, hD⟩ : ∃ D, D = cutD (r5 - 1000000) (1 + r6) := ⟨_, rfl⟩
        rw [← hN, ← hD]
        clear hN hD
        have hk8 := hk7
        have FIN : Hid (CurPost w a p n c k 20 ((w8.setCell ⟨R, 0, none⟩ (.int .i64 N)).setCell ⟨R, 1, none⟩ (.int .i64 D))) := Lib.hid (S8.out.fin (by omega))
        obtain ⟨t0, t1, f0, f1⟩ := S8.out.bx.cells
        clear S8
        go_wp2_with fail
        refine bodyPost_ret (v := .agg #[.int .i64 N, .int .i64 D]) (by simp [results, Try.results102, go_sem, t0, t1]) rfl ⟨⟨_, _, rfl⟩, FIN.out⟩
      · skip
        have FIN : Hid (CurPost w a p n c k 20 ((w7.setCell ⟨R, 0, none⟩ (.int .i64 (r5 - 1000000))).setCell ⟨R, 1, none⟩ (.int .i64 (1 + r6)))) := Lib.hid (S7.out.fin (by omega))
        obtain ⟨t0, t1, f0, f1⟩ := S7.out.bx.cells
        clear S7
        go_wp2_with fail
        refine bodyPost_ret (v := .agg #[.int .i64 (r5 - 1000000), .int .i64 (1 + r6)]) (by simp [results, Try.results102, go_sem, t0, t1]) rfl ⟨⟨_, _, rfl⟩, FIN.out⟩
  · go_wp2_with fail
    have hr1 := S1.out.cur.room
    refine (among_any a n c k1 p w1.heap.size 5 5 _ (by omega) (by omega) (by omega) hn (S1.out.cur.alloc _) (S1.out.byt.alloc _) (by omega) ?_).mono ?_
    · intro i hi
      have : i = 0 ∨ i = 1 ∨ i = 2 ∨ i = 3 ∨ i = 4 := by omega
      rcases this with rfl | rfl | rfl | rfl | rfl <;> exact ⟨_, new_cell _ _ _ _ _ rfl⟩
    rintro e w2 ⟨⟨z2, rfl⟩, hp⟩
    obtain ⟨k2, hk2, T⟩ := (S1.out.alloc _).next hp
    have S2 := Lib.hid T
    clear hp T S1 hr1
    go_wp2_with fail
    have hr2 := S2.out.cur.room
    refine (among_any a n c k2 p w2.heap.size 6 6 _ (by omega) (by omega) (by omega) hn (S2.out.cur.alloc _) (S2.out.byt.alloc _) (by omega) ?_).mono ?_
    · intro i hi
      have : i = 0 ∨ i = 1 ∨ i = 2 ∨ i = 3 ∨ i = 4 ∨ i = 5 := by omega
      rcases this with rfl | rfl | rfl | rfl | rfl | rfl <;> exact ⟨_, new_cell _ _ _ _ _ rfl⟩
    rintro e w3 ⟨⟨z3, rfl⟩, hp⟩
    obtain ⟨k3, hk3, T⟩ := (S2.out.alloc _).next hp
    have S3 := Lib.hid T
    clear hp T S2 hr2
    have FIN : Hid (CurPost w a p n c k 20 ((w3.setCell ⟨R, 0, none⟩ (.int .i64 z2)).setCell ⟨R, 1, none⟩ (.int .i64 z3))) := Lib.hid (S3.out.fin (by omega))
    obtain ⟨t0, t1, f0, f1⟩ := S3.out.bx.cells
    clear S3
    go_wp2_with fail
    refine bodyPost_ret (v := .agg #[.int .i64 z2, .int .i64 z3]) (by simp [results, Try.results102, go_sem, t0, t1]) rfl ⟨⟨_, _, rfl⟩, FIN.out⟩
end Go.Proofs.Ytonlibncccljgaa
