/- The draws of walks and votes. -/
import Derived.Test.YtmidlabgmmejbabCurQ
import Derived.Deep.DeepCutAuto
namespace Go.Proofs.Ytmidlabgmmejbab
open Go.RowKit
set_option linter.unusedVariables false
theorem in64_wrap (t : Int) : InI64 (wrap64 t) := by unfold InI64 wrap64; omega
set_option maxRecDepth 100000 in
set_option maxHeartbeats 2000000 in
theorem steps_any (a n c k : Nat) (p : Option Addr) (w : World) (hk : k ≤ 800000) (hn : n ≤ 65536) (hC : CurAt w a p n c k) (hB : BytesAt w a p n) :
    Calls Try.prog 129 #[.pointer (some ⟨a, 0, none⟩)] w fun e w' => (∃ z : Int, InI64 z ∧ e = .returned (.int .i64 z)) ∧ CurPost w a p n c k 4 w' := by
  have C0 := Lib.hid hC
  have B0 := Lib.hid hB
  have G0 := Lib.hid (grown_self w (some a))
  clear hC hB
  go_enter Try.func129, Try.ntmps129
  have O1 := Lib.hid (one_any a n c k p 24 w (by omega) (by omega) (by omega) hn C0.out B0.out)
  have hr1 := C0.out.room
  clear C0
  go_wp2_with fail
  refine O1.out.mono ?_
  rintro e w1 ⟨⟨b, rfl⟩, ⟨k1, hk1, hC1⟩, hg1⟩
  have C1 := Lib.hid hC1
  clear O1 hC1
  have B1 := Lib.hid (B0.out.turned (Nat.le_refl _) hg1)
  have G1 := Lib.hid (grown_then G0.out hg1)
  clear B0 G0
  clear hg1
  cases b
  · have O2 := Lib.hid (pick_any a n c k1 p 13 w1 (by omega) (by omega) (by omega) hn C1.out B1.out)
    have hr2 := C1.out.room
    clear C1
    go_wp2_with fail
    refine O2.out.mono ?_
    rintro e w2 ⟨⟨r, r0, r1, rfl⟩, ⟨k2, hk2, hC2⟩, hg2⟩
    have C2 := Lib.hid hC2
    clear O2 hC2
    have B2 := Lib.hid (B1.out.turned (Nat.le_refl _) hg2)
    have G2 := Lib.hid (grown_then G1.out hg2)
    clear B1 G1
    clear hg2
    have FIN := Lib.hid (show CurPost w a p n c k 4 w2 from ⟨⟨k2, by omega, C2.out⟩, G2.out⟩)
    go_wp2_with fail
    go_ret
    exact ⟨⟨r, by unfold InI64; omega, rfl⟩, FIN.out⟩
  · obtain ⟨w2, hw2⟩ : ∃ w2, w2 = w1.alloc (.cells #[.int .i64 (-1), .int .i64 30, .int .i64 31, .int .i64 4611686018427387904] 3) := ⟨_, rfl⟩
    have hr2 := C1.out.room
    have C2 := Lib.hid (show CurAt w2 a p n c k1 by rw [hw2]; exact C1.out.alloc _)
    clear C1
    have hgl : w1.grownBy w2 (some a) := by rw [hw2]; exact grown_alloc _ _ _
    have B2 := Lib.hid (B1.out.turned (Nat.le_refl _) hgl)
    have G2 := Lib.hid (grown_then G1.out hgl)
    clear B1 G1
    clear hgl
    have L_2 := Lib.hid (show ∀ i : Nat, i < 4 → ∃ z : Int, (InI64 z) ∧ w2.cell? ⟨w1.heap.size, i, none⟩ = some (.int .i64 z) from by
      intro i hi
      rw [hw2]
      have : i = 0 ∨ i = 1 ∨ i = 2 ∨ i = 3 := by omega
      rcases this with rfl | rfl | rfl | rfl <;> exact ⟨_, by unfold InI64; omega, new_cell' rfl rfl⟩)
    have O3 := Lib.hid (among_P a n c k1 p w1.heap.size 4 4 w2 (fun z => InI64 z) (by omega) (by omega) (by omega) hn C2.out B2.out (by omega) (fun i hi => L_2.out i (by omega)))
    have hr3 := C2.out.room
    clear C2
    go_wp2_with fail
    rw [← hw2]
    clear hw2
    refine O3.out.mono ?_
    rintro e w3 ⟨⟨z, hz, rfl⟩, ⟨k3, hk3, hC3⟩, hg3⟩
    have C3 := Lib.hid hC3
    clear O3 hC3
    have B3 := Lib.hid (B2.out.turned (Nat.le_refl _) hg3)
    have G3 := Lib.hid (grown_then G2.out hg3)
    have L_3 := Lib.hid (show ∀ i : Nat, i < 4 → ∃ z : Int, (InI64 z) ∧ w3.cell? ⟨w1.heap.size, i, none⟩ = some (.int .i64 z) from fun i hi => by
      obtain ⟨z, hz, hc⟩ := L_2.out i hi
      exact ⟨z, hz, (World.cell?_of_block (hg3.block w1.heap.size (cell_room' hc) (fun e => by injection e; omega))).trans hc⟩)
    clear L_2
    clear B2 G2
    clear hg3
    clear L_3
    have Hz := Lib.hid hz
    clear hz
    have FIN := Lib.hid (show CurPost w a p n c k 4 w3 from ⟨⟨k3, by omega, C3.out⟩, G3.out⟩)
    go_wp2_with fail
    go_ret
    exact ⟨⟨z, Hz.out, rfl⟩, FIN.out⟩
set_option maxRecDepth 100000 in
set_option maxHeartbeats 2000000 in
theorem drawPath (n c : Nat) (p : Option Addr) (w : World) (hn : n ≤ 65536) (hB : BytesAt w w.heap.size p n) :
    Calls Try.prog 78 #[.slice p n c] w fun e w' => (∃ x y : Int, InI64 x ∧ InI64 y ∧ e = .returned (.tuple #[.int .i64 x, .int .i64 y])) ∧ Below w.heap.size w w' := by
  obtain ⟨w0, hw0⟩ : ∃ w0, w0 = w.alloc (.cells #[.slice p n c, .int .i64 0, .int .u64 0] 104) := ⟨_, rfl⟩
  have C0 := Lib.hid (show CurAt w0 w.heap.size p n c 0 by rw [hw0]; exact CurAt.new w p n c)
  have B0 := Lib.hid (show BytesAt w0 w.heap.size p n by rw [hw0]; exact hB.alloc _)
  have G0 := Lib.hid (show w.grownBy w0 (some w.heap.size) by rw [hw0]; exact grown_alloc w _ _)
  clear hB
  go_enter Try.func78, Try.ntmps78
  have O1 := Lib.hid (steps_any w.heap.size n c 0 p w0 (by omega) hn C0.out B0.out)
  have hr1 := C0.out.room
  clear C0
  go_wp2_with fail
  rw [← hw0]
  clear hw0
  refine O1.out.mono ?_
  rintro e w1 ⟨⟨m, hm, rfl⟩, ⟨k1, hk1, hC1⟩, hg1⟩
  have C1 := Lib.hid hC1
  clear O1 hC1
  have B1 := Lib.hid (B0.out.turned (Nat.le_refl _) hg1)
  have G1 := Lib.hid (grown_then G0.out hg1)
  clear B0 G0
  clear hg1
  have Hm := Lib.hid hm
  clear hm
  have O2 := Lib.hid (one_any w.heap.size n c k1 p 20 w1 (by omega) (by omega) (by omega) hn C1.out B1.out)
  have hr2 := C1.out.room
  clear C1
  go_wp2_with fail
  refine O2.out.mono ?_
  rintro e w2 ⟨⟨b, rfl⟩, ⟨k2, hk2, hC2⟩, hg2⟩
  have C2 := Lib.hid hC2
  clear O2 hC2
  have B2 := Lib.hid (B1.out.turned (Nat.le_refl _) hg2)
  have G2 := Lib.hid (grown_then G1.out hg2)
  clear B1 G1
  clear hg2
  cases b
  · have O3 := Lib.hid (pick_any w.heap.size n c k2 p 15 w2 (by omega) (by omega) (by omega) hn C2.out B2.out)
    have hr3 := C2.out.room
    clear C2
    go_wp2_with fail
    refine O3.out.mono ?_
    rintro e w3 ⟨⟨r, r0, r1, rfl⟩, ⟨k3, hk3, hC3⟩, hg3⟩
    have C3 := Lib.hid hC3
    clear O3 hC3
    have B3 := Lib.hid (B2.out.turned (Nat.le_refl _) hg3)
    have G3 := Lib.hid (grown_then G2.out hg3)
    clear B2 G2
    clear hg3
    have FIN := Lib.hid (below_of_grown G3.out (Nat.le_refl _))
    go_wp2_with fail
    go_ret2
    exact ⟨⟨m, r - 7, Hm.out, by unfold InI64; omega, rfl⟩, FIN.out⟩
  · obtain ⟨w3, hw3⟩ : ∃ w3, w3 = w2.alloc (.cells #[.int .i64 4611686018427387904, .int .i64 (-9223372036854775808), .int .i64 31] 3) := ⟨_, rfl⟩
    have hr3 := C2.out.room
    have C3 := Lib.hid (show CurAt w3 w.heap.size p n c k2 by rw [hw3]; exact C2.out.alloc _)
    clear C2
    have hgl : w2.grownBy w3 (some w.heap.size) := by rw [hw3]; exact grown_alloc _ _ _
    have B3 := Lib.hid (B2.out.turned (Nat.le_refl _) hgl)
    have G3 := Lib.hid (grown_then G2.out hgl)
    clear B2 G2
    clear hgl
    have L_3 := Lib.hid (show ∀ i : Nat, i < 3 → ∃ z : Int, (InI64 z) ∧ w3.cell? ⟨w2.heap.size, i, none⟩ = some (.int .i64 z) from by
      intro i hi
      rw [hw3]
      have : i = 0 ∨ i = 1 ∨ i = 2 := by omega
      rcases this with rfl | rfl | rfl <;> exact ⟨_, by unfold InI64; omega, new_cell' rfl rfl⟩)
    have O4 := Lib.hid (among_P w.heap.size n c k2 p w2.heap.size 3 3 w3 (fun z => InI64 z) (by omega) (by omega) (by omega) hn C3.out B3.out (by omega) (fun i hi => L_3.out i (by omega)))
    have hr4 := C3.out.room
    clear C3
    go_wp2_with fail
    rw [← hw3]
    clear hw3
    refine O4.out.mono ?_
    rintro e w4 ⟨⟨z, hz, rfl⟩, ⟨k4, hk4, hC4⟩, hg4⟩
    have C4 := Lib.hid hC4
    clear O4 hC4
    have B4 := Lib.hid (B3.out.turned (Nat.le_refl _) hg4)
    have G4 := Lib.hid (grown_then G3.out hg4)
    have L_4 := Lib.hid (show ∀ i : Nat, i < 3 → ∃ z : Int, (InI64 z) ∧ w4.cell? ⟨w2.heap.size, i, none⟩ = some (.int .i64 z) from fun i hi => by
      obtain ⟨z, hz, hc⟩ := L_3.out i hi
      exact ⟨z, hz, (World.cell?_of_block (hg4.block w2.heap.size (cell_room' hc) (fun e => by injection e; omega))).trans hc⟩)
    clear L_3
    clear B3 G3
    clear hg4
    clear L_4
    have Hz := Lib.hid hz
    clear hz
    have FIN := Lib.hid (below_of_grown G4.out (Nat.le_refl _))
    go_wp2_with fail
    go_ret2
    exact ⟨⟨m, z, Hm.out, Hz.out, rfl⟩, FIN.out⟩
set_option maxRecDepth 100000 in
theorem drawFirst (n c : Nat) (p : Option Addr) (w : World) (hn : n ≤ 65536) (hB : BytesAt w w.heap.size p n) :
    Calls Try.prog 32 #[.slice p n c] w fun e w' => (∃ x y : Int, InI64 x ∧ InI64 y ∧ e = .returned (.tuple #[.int .i64 x, .int .i64 y])) ∧ Below w.heap.size w w' := by
  have D := Lib.hid (drawPath n c p w hn hB)
  clear hB
  go_enter Try.func32, Try.ntmps32
  go_wp2_with fail
  refine D.out.mono ?_
  rintro e w1 ⟨⟨x, y, hx, hy, rfl⟩, b1⟩
  have B1 := Lib.hid b1
  have HX := Lib.hid (And.intro hx hy)
  clear b1 hx hy
  go_wp2_with fail
  go_ret2
  exact ⟨⟨x, y, HX.out.1, HX.out.2, rfl⟩, B1.out⟩
set_option maxRecDepth 100000 in
set_option maxHeartbeats 2000000 in
theorem drawBallot (n c : Nat) (p : Option Addr) (w : World) (hn : n ≤ 65536) (hB : BytesAt w w.heap.size p n) :
    Calls Try.prog 36 #[.slice p n c] w fun e w' => (∃ x y : Int, InI64 x ∧ InI64 y ∧ e = .returned (.tuple #[.int .i64 x, .int .i64 y])) ∧ Below w.heap.size w w' := by
  obtain ⟨w0, hw0⟩ : ∃ w0, w0 = w.alloc (.cells #[.slice p n c, .int .i64 0, .int .u64 0] 104) := ⟨_, rfl⟩
  have C0 := Lib.hid (show CurAt w0 w.heap.size p n c 0 by rw [hw0]; exact CurAt.new w p n c)
  have B0 := Lib.hid (show BytesAt w0 w.heap.size p n by rw [hw0]; exact hB.alloc _)
  have G0 := Lib.hid (show w.grownBy w0 (some w.heap.size) by rw [hw0]; exact grown_alloc w _ _)
  clear hB
  go_enter Try.func36, Try.ntmps36
  have O1 := Lib.hid (one_any w.heap.size n c 0 p 20 w0 (by omega) (by omega) (by omega) hn C0.out B0.out)
  have hr1 := C0.out.room
  clear C0
  go_wp2_with fail
  rw [← hw0]
  clear hw0
  refine O1.out.mono ?_
  rintro e w1 ⟨⟨b, rfl⟩, ⟨k1, hk1, hC1⟩, hg1⟩
  have C1 := Lib.hid hC1
  clear O1 hC1
  have B1 := Lib.hid (B0.out.turned (Nat.le_refl _) hg1)
  have G1 := Lib.hid (grown_then G0.out hg1)
  clear B0 G0
  clear hg1
  cases b
  · have O2 := Lib.hid (pick_any w.heap.size n c k1 p 10 w1 (by omega) (by omega) (by omega) hn C1.out B1.out)
    have hr2 := C1.out.room
    clear C1
    go_wp2_with fail
    refine O2.out.mono ?_
    rintro e w2 ⟨⟨x, x0, x1, rfl⟩, ⟨k2, hk2, hC2⟩, hg2⟩
    have C2 := Lib.hid hC2
    clear O2 hC2
    have B2 := Lib.hid (B1.out.turned (Nat.le_refl _) hg2)
    have G2 := Lib.hid (grown_then G1.out hg2)
    clear B1 G1
    clear hg2
    have O3 := Lib.hid (pick_any w.heap.size n c k2 p 8 w2 (by omega) (by omega) (by omega) hn C2.out B2.out)
    have hr3 := C2.out.room
    clear C2
    go_wp2_with fail
    refine O3.out.mono ?_
    rintro e w3 ⟨⟨y, y0, y1, rfl⟩, ⟨k3, hk3, hC3⟩, hg3⟩
    have C3 := Lib.hid hC3
    clear O3 hC3
    have B3 := Lib.hid (B2.out.turned (Nat.le_refl _) hg3)
    have G3 := Lib.hid (grown_then G2.out hg3)
    clear B2 G2
    clear hg3
    have FIN := Lib.hid (below_of_grown G3.out (Nat.le_refl _))
    go_wp2_with fail
    go_ret2
    exact ⟨⟨x, y, by unfold InI64; omega, by unfold InI64; omega, rfl⟩, FIN.out⟩
  · obtain ⟨w2, hw2⟩ : ∃ w2, w2 = w1.alloc (.cells #[.int .i64 (-1), .int .i64 30, .int .i64 31] 3) := ⟨_, rfl⟩
    have hr2 := C1.out.room
    have C2 := Lib.hid (show CurAt w2 w.heap.size p n c k1 by rw [hw2]; exact C1.out.alloc _)
    clear C1
    have hgl : w1.grownBy w2 (some w.heap.size) := by rw [hw2]; exact grown_alloc _ _ _
    have B2 := Lib.hid (B1.out.turned (Nat.le_refl _) hgl)
    have G2 := Lib.hid (grown_then G1.out hgl)
    clear B1 G1
    clear hgl
    have L_2 := Lib.hid (show ∀ i : Nat, i < 3 → ∃ z : Int, (InI64 z) ∧ w2.cell? ⟨w1.heap.size, i, none⟩ = some (.int .i64 z) from by
      intro i hi
      rw [hw2]
      have : i = 0 ∨ i = 1 ∨ i = 2 := by omega
      rcases this with rfl | rfl | rfl <;> exact ⟨_, by unfold InI64; omega, new_cell' rfl rfl⟩)
    have O3 := Lib.hid (among_P w.heap.size n c k1 p w1.heap.size 3 3 w2 (fun z => InI64 z) (by omega) (by omega) (by omega) hn C2.out B2.out (by omega) (fun i hi => L_2.out i (by omega)))
    have hr3 := C2.out.room
    clear C2
    go_wp2_with fail
    rw [← hw2]
    clear hw2
    refine O3.out.mono ?_
    rintro e w3 ⟨⟨z, hz, rfl⟩, ⟨k3, hk3, hC3⟩, hg3⟩
    have C3 := Lib.hid hC3
    clear O3 hC3
    have B3 := Lib.hid (B2.out.turned (Nat.le_refl _) hg3)
    have G3 := Lib.hid (grown_then G2.out hg3)
    have L_3 := Lib.hid (show ∀ i : Nat, i < 3 → ∃ z : Int, (InI64 z) ∧ w3.cell? ⟨w1.heap.size, i, none⟩ = some (.int .i64 z) from fun i hi => by
      obtain ⟨z, hz, hc⟩ := L_2.out i hi
      exact ⟨z, hz, (World.cell?_of_block (hg3.block w1.heap.size (cell_room' hc) (fun e => by injection e; omega))).trans hc⟩)
    clear L_2
    clear B2 G2
    clear hg3
    clear L_3
    have Hz := Lib.hid hz
    clear hz
    have O4 := Lib.hid (pick_any w.heap.size n c k3 p 3 w3 (by omega) (by omega) (by omega) hn C3.out B3.out)
    have hr4 := C3.out.room
    clear C3
    go_wp2_with fail
    refine O4.out.mono ?_
    rintro e w4 ⟨⟨y, y0, y1, rfl⟩, ⟨k4, hk4, hC4⟩, hg4⟩
    have C4 := Lib.hid hC4
    clear O4 hC4
    have B4 := Lib.hid (B3.out.turned (Nat.le_refl _) hg4)
    have G4 := Lib.hid (grown_then G3.out hg4)
    clear B3 G3
    clear hg4
    have FIN := Lib.hid (below_of_grown G4.out (Nat.le_refl _))
    go_wp2_with fail
    go_ret2
    exact ⟨⟨z, y, Hz.out, by unfold InI64; omega, rfl⟩, FIN.out⟩
set_option maxRecDepth 100000 in
set_option maxHeartbeats 2000000 in
theorem drawRet (n c : Nat) (p : Option Addr) (w : World) (hn : n ≤ 65536) (hB : BytesAt w w.heap.size p n) :
    Calls Try.prog 41 #[.slice p n c] w fun e w' => (∃ z : Int, InI64 z ∧ e = .returned (.int .i64 z)) ∧ Below w.heap.size w w' := by
  obtain ⟨w0, hw0⟩ : ∃ w0, w0 = w.alloc (.cells #[.slice p n c, .int .i64 0, .int .u64 0] 104) := ⟨_, rfl⟩
  have C0 := Lib.hid (show CurAt w0 w.heap.size p n c 0 by rw [hw0]; exact CurAt.new w p n c)
  have B0 := Lib.hid (show BytesAt w0 w.heap.size p n by rw [hw0]; exact hB.alloc _)
  have G0 := Lib.hid (show w.grownBy w0 (some w.heap.size) by rw [hw0]; exact grown_alloc w _ _)
  clear hB
  go_enter Try.func41, Try.ntmps41
  have O1 := Lib.hid (one_any w.heap.size n c 0 p 12 w0 (by omega) (by omega) (by omega) hn C0.out B0.out)
  have hr1 := C0.out.room
  clear C0
  go_wp2_with fail
  rw [← hw0]
  clear hw0
  refine O1.out.mono ?_
  rintro e w1 ⟨⟨b, rfl⟩, ⟨k1, hk1, hC1⟩, hg1⟩
  have C1 := Lib.hid hC1
  clear O1 hC1
  have B1 := Lib.hid (B0.out.turned (Nat.le_refl _) hg1)
  have G1 := Lib.hid (grown_then G0.out hg1)
  clear B0 G0
  clear hg1
  cases b
  · have O2 := Lib.hid (pick_any w.heap.size n c k1 p 7 w1 (by omega) (by omega) (by omega) hn C1.out B1.out)
    have hr2 := C1.out.room
    clear C1
    go_wp2_with fail
    refine O2.out.mono ?_
    rintro e w2 ⟨⟨r, r0, r1, rfl⟩, ⟨k2, hk2, hC2⟩, hg2⟩
    have C2 := Lib.hid hC2
    clear O2 hC2
    have B2 := Lib.hid (B1.out.turned (Nat.le_refl _) hg2)
    have G2 := Lib.hid (grown_then G1.out hg2)
    clear B1 G1
    clear hg2
    have FIN := Lib.hid (below_of_grown G2.out (Nat.le_refl _))
    go_wp2_with fail
    go_ret
    exact ⟨⟨2 * r, by unfold InI64; omega, rfl⟩, FIN.out⟩
  · obtain ⟨w2, hw2⟩ : ∃ w2, w2 = w1.alloc (.cells #[.int .i64 (-2), .int .i64 30, .int .i64 32, .int .i64 7] 3) := ⟨_, rfl⟩
    have hr2 := C1.out.room
    have C2 := Lib.hid (show CurAt w2 w.heap.size p n c k1 by rw [hw2]; exact C1.out.alloc _)
    clear C1
    have hgl : w1.grownBy w2 (some w.heap.size) := by rw [hw2]; exact grown_alloc _ _ _
    have B2 := Lib.hid (B1.out.turned (Nat.le_refl _) hgl)
    have G2 := Lib.hid (grown_then G1.out hgl)
    clear B1 G1
    clear hgl
    have L_2 := Lib.hid (show ∀ i : Nat, i < 4 → ∃ z : Int, (InI64 z) ∧ w2.cell? ⟨w1.heap.size, i, none⟩ = some (.int .i64 z) from by
      intro i hi
      rw [hw2]
      have : i = 0 ∨ i = 1 ∨ i = 2 ∨ i = 3 := by omega
      rcases this with rfl | rfl | rfl | rfl <;> exact ⟨_, by unfold InI64; omega, new_cell' rfl rfl⟩)
    have O3 := Lib.hid (among_P w.heap.size n c k1 p w1.heap.size 4 4 w2 (fun z => InI64 z) (by omega) (by omega) (by omega) hn C2.out B2.out (by omega) (fun i hi => L_2.out i (by omega)))
    have hr3 := C2.out.room
    clear C2
    go_wp2_with fail
    rw [← hw2]
    clear hw2
    refine O3.out.mono ?_
    rintro e w3 ⟨⟨z, hz, rfl⟩, ⟨k3, hk3, hC3⟩, hg3⟩
    have C3 := Lib.hid hC3
    clear O3 hC3
    have B3 := Lib.hid (B2.out.turned (Nat.le_refl _) hg3)
    have G3 := Lib.hid (grown_then G2.out hg3)
    have L_3 := Lib.hid (show ∀ i : Nat, i < 4 → ∃ z : Int, (InI64 z) ∧ w3.cell? ⟨w1.heap.size, i, none⟩ = some (.int .i64 z) from fun i hi => by
      obtain ⟨z, hz, hc⟩ := L_2.out i hi
      exact ⟨z, hz, (World.cell?_of_block (hg3.block w1.heap.size (cell_room' hc) (fun e => by injection e; omega))).trans hc⟩)
    clear L_2
    clear B2 G2
    clear hg3
    clear L_3
    have Hz := Lib.hid hz
    clear hz
    have FIN := Lib.hid (below_of_grown G3.out (Nat.le_refl _))
    go_wp2_with fail
    go_ret
    exact ⟨⟨z, Hz.out, rfl⟩, FIN.out⟩
set_option maxRecDepth 100000 in
set_option maxHeartbeats 2000000 in
theorem drawAbove (n c : Nat) (p : Option Addr) (w : World) (hn : n ≤ 65536) (hB : BytesAt w w.heap.size p n) :
    Calls Try.prog 27 #[.slice p n c] w fun e w' => (∃ x y z : Int, InI64 x ∧ InI64 y ∧ InI64 z ∧ e = .returned (.tuple #[.int .i64 x, .int .i64 y, .int .i64 z])) ∧ Below w.heap.size w w' := by
  obtain ⟨w0, hw0⟩ : ∃ w0, w0 = w.alloc (.cells #[.slice p n c, .int .i64 0, .int .u64 0] 104) := ⟨_, rfl⟩
  have C0 := Lib.hid (show CurAt w0 w.heap.size p n c 0 by rw [hw0]; exact CurAt.new w p n c)
  have B0 := Lib.hid (show BytesAt w0 w.heap.size p n by rw [hw0]; exact hB.alloc _)
  have G0 := Lib.hid (show w.grownBy w0 (some w.heap.size) by rw [hw0]; exact grown_alloc w _ _)
  clear hB
  go_enter Try.func27, Try.ntmps27
  have DP := Lib.hid (fun w' (hb : w.grownBy w' (some w.heap.size)) (h : BytesAt w' w.heap.size p n) => drawPath n c p w' hn (h.more (by have := hb.size; omega)))
  have hr0 := C0.out.room
  go_wp2_with fail
  rw [← hw0]
  clear hw0
  refine (DP.out _ G0.out B0.out).mono ?_
  rintro e w1 ⟨⟨m, x, hm, hx, rfl⟩, b1⟩
  have HX := Lib.hid (And.intro hm hx)
  have C1 := Lib.hid (show CurAt w1 w.heap.size p n c 0 from by
    obtain ⟨s, s0, s1, hh⟩ := C0.out
    exact ⟨s, s0, s1, (b1.block w.heap.size hr0).trans hh⟩)
  have B1 := Lib.hid (show BytesAt w1 w.heap.size p n from fun i hi => by
    obtain ⟨b, off, z, e, hb, z0, z1, hc⟩ := B0.out i hi
    exact ⟨b, off, z, e, hb, z0, z1, by rw [b1.cell (p := ⟨b, off + i, none⟩) (show b < _ by omega)]; exact hc⟩)
  have G1 := Lib.hid (show w.grownBy w1 (some w.heap.size) from grown_then G0.out ⟨b1.os, b1.tape, b1.output, b1.size, fun i hi _ => b1.block i hi⟩)
  clear b1 hm hx C0 B0 G0 DP
  have O2 := Lib.hid (pick_any w.heap.size n c 0 p 5 w1 (by omega) (by omega) (by omega) hn C1.out B1.out)
  have hr2 := C1.out.room
  clear C1
  go_wp2_with fail
  refine O2.out.mono ?_
  rintro e w2 ⟨⟨a, a0, a1, rfl⟩, ⟨k2, hk2, hC2⟩, hg2⟩
  have C2 := Lib.hid hC2
  clear O2 hC2
  have B2 := Lib.hid (B1.out.turned (Nat.le_refl _) hg2)
  have G2 := Lib.hid (grown_then G1.out hg2)
  clear B1 G1
  clear hg2
  obtain ⟨w3, hw3⟩ : ∃ w3, w3 = w2.alloc (.cells #[.int .i64 0, .int .i64 0, .int .i64 0, .int .i64 0, .int .i64 1, .int .i64 (-30)] 3) := ⟨_, rfl⟩
  have hr3 := C2.out.room
  have C3 := Lib.hid (show CurAt w3 w.heap.size p n c k2 by rw [hw3]; exact C2.out.alloc _)
  clear C2
  have hgl : w2.grownBy w3 (some w.heap.size) := by rw [hw3]; exact grown_alloc _ _ _
  have B3 := Lib.hid (B2.out.turned (Nat.le_refl _) hgl)
  have G3 := Lib.hid (grown_then G2.out hgl)
  clear B2 G2
  clear hgl
  have L_3 := Lib.hid (show ∀ i : Nat, i < 6 → ∃ z : Int, (z = 0 ∨ z = 1 ∨ z = -30) ∧ w3.cell? ⟨w2.heap.size, i, none⟩ = some (.int .i64 z) from by
    intro i hi
    rw [hw3]
    have : i = 0 ∨ i = 1 ∨ i = 2 ∨ i = 3 ∨ i = 4 ∨ i = 5 := by omega
    rcases this with rfl | rfl | rfl | rfl | rfl | rfl <;> exact ⟨_, by omega, new_cell' rfl rfl⟩)
  have O4 := Lib.hid (among_P w.heap.size n c k2 p w2.heap.size 6 6 w3 (fun z => z = 0 ∨ z = 1 ∨ z = -30) (by omega) (by omega) (by omega) hn C3.out B3.out (by omega) (fun i hi => L_3.out i (by omega)))
  have hr4 := C3.out.room
  clear C3
  go_wp2_with fail
  rw [← hw3]
  clear hw3
  refine O4.out.mono ?_
  rintro e w4 ⟨⟨z, hz, rfl⟩, ⟨k4, hk4, hC4⟩, hg4⟩
  have C4 := Lib.hid hC4
  clear O4 hC4
  have B4 := Lib.hid (B3.out.turned (Nat.le_refl _) hg4)
  have G4 := Lib.hid (grown_then G3.out hg4)
  have L_4 := Lib.hid (show ∀ i : Nat, i < 6 → ∃ z : Int, (z = 0 ∨ z = 1 ∨ z = -30) ∧ w4.cell? ⟨w2.heap.size, i, none⟩ = some (.int .i64 z) from fun i hi => by
    obtain ⟨z, hz, hc⟩ := L_3.out i hi
    exact ⟨z, hz, (World.cell?_of_block (hg4.block w2.heap.size (cell_room' hc) (fun e => by injection e; omega))).trans hc⟩)
  clear L_3
  clear B3 G3
  clear hg4
  clear L_4
  have Hz := Lib.hid hz
  clear hz
  have O5 := Lib.hid (pick_any w.heap.size n c k4 p 24 w4 (by omega) (by omega) (by omega) hn C4.out B4.out)
  have hr5 := C4.out.room
  clear C4
  go_wp2_with fail
  refine O5.out.mono ?_
  rintro e w5 ⟨⟨b, b0, b1, rfl⟩, ⟨k5, hk5, hC5⟩, hg5⟩
  have C5 := Lib.hid hC5
  clear O5 hC5
  have B5 := Lib.hid (B4.out.turned (Nat.le_refl _) hg5)
  have G5 := Lib.hid (grown_then G4.out hg5)
  clear B4 G4
  clear hg5
  have FIN := Lib.hid (below_of_grown G5.out (Nat.le_refl _))
  go_wp2_with fail
  go_ret3
  exact ⟨⟨m, x, _, HX.out.1, HX.out.2, in64_wrap _, rfl⟩, FIN.out⟩
end Go.Proofs.Ytmidlabgmmejbab
