/- The inputs that the law of texts draws: some number, some text; nothing that lay before is turned. -/
import Derived.Test.YthpkabjgjgmnoaaDoorCur
import Derived.Test.YthpkabjgjgmnoaaDoorNum
import Derived.WalkKit
import Derived.ProofKit
import Derived.Outline
import Derived.Lib.Hide
import Derived.WalkSpells
import Derived.Laws.IdiomStrings
import Derived.Laws.OwnMore
namespace Go.Proofs.YthpkabjgjgmnoaaDoor
open Go.RowKit
set_option linter.unusedVariables false
theorem new_cell (w : World) (xs : Array Value) (t : TypeId) (i : Nat) (v : Value) (h : xs[i]? = some v) : (w.alloc (.cells xs t)).cell? ⟨w.heap.size, i, none⟩ = some v := by
  have hh : (w.alloc (.cells xs t)).heap[w.heap.size]? = some (.cells xs t (0, 0)) := by
    show (w.heap.push _)[w.heap.size]? = _
    simp
  unfold World.cell?
  simp only [hh]
  exact h
theorem grown_alloc (w : World) (o : Obj) (r : Option Nat) : w.grownBy (w.alloc o) r :=
  ⟨rfl, rfl, rfl, by show w.heap.size ≤ (w.heap.push o).size; simp, fun i hi _ => by show (w.heap.push o)[i]? = w.heap[i]?; rw [Array.getElem?_push, if_neg (by omega)]⟩
theorem CurAt.room {w : World} {a n c k : Nat} {p : Option Addr} (h : CurAt w a p n c k) : a < w.heap.size := by
  obtain ⟨s, _, _, hb⟩ := h
  exact (Array.getElem?_eq_some_iff.1 hb).1
theorem CurAt.alloc {w : World} {a n c k : Nat} {p : Option Addr} (h : CurAt w a p n c k) (o : Obj) : CurAt (w.alloc o) a p n c k := by
  have hr := h.room
  obtain ⟨s, s0, s1, hb⟩ := h
  refine ⟨s, s0, s1, ?_⟩
  show (w.heap.push o)[a]? = _
  rw [Array.getElem?_push, if_neg (by omega)]; exact hb
theorem CurAt.new (w : World) (p : Option Addr) (n c : Nat) : CurAt (w.alloc (.cells #[.slice p n c, .int .i64 0, .int .u64 0] 37)) w.heap.size p n c 0 := by
  refine ⟨0, by omega, by omega, ?_⟩
  show (w.heap.push _)[w.heap.size]? = _
  simp
theorem BytesAt.more {w : World} {B B' n : Nat} {p : Option Addr} (h : BytesAt w B p n) (hB : B ≤ B') : BytesAt w B' p n := by
  intro i hi
  obtain ⟨b, off, z, e, hb, z0, z1, hc⟩ := h i hi
  exact ⟨b, off, z, e, by omega, z0, z1, hc⟩
theorem BytesAt.alloc {w : World} {B n : Nat} {p : Option Addr} (h : BytesAt w B p n) (o : Obj) : BytesAt (w.alloc o) B p n := by
  intro i hi
  obtain ⟨b, off, z, e, hb, z0, z1, hc⟩ := h i hi
  refine ⟨b, off, z, e, hb, z0, z1, ?_⟩
  rw [← hc]
  exact World.cell?_of_block ((grown_alloc w o none).block b (cell_room hc) (by simp))
theorem below_of_grown {w w' : World} {B : Nat} (h : w.grownBy w' (some B)) (hB : w.heap.size ≤ B) : Below w.heap.size w w' :=
  ⟨h.os, h.tape, h.output, h.size, fun i hi => h.block i hi (fun e => by injection e; omega)⟩
theorem any1_any (a n c k : Nat) (p : Option Addr) (w : World) (hk : k ≤ 900000) (hn : n ≤ 65536) (hC : CurAt w a p n c k) (hB : BytesAt w a p n) :
    Calls Tryd.prog 30 #[.pointer (some ⟨a, 0, none⟩)] w fun e w' => AString 10 e ∧ CurPost w a p n c k 2 w' := by
  have C := Lib.hid hC
  have B := Lib.hid hB
  have hr := hC.room
  clear hC hB
  go_enter Tryd.func30, Tryd.ntmps30
  go_wp2_with fail
  refine (of_any a n c k p _ 9 9 10 _ (by omega) (by omega) hk hn (C.out.alloc _) (B.out.alloc _) (by omega) ?_).mono ?_
  · intro i hi
    have : i = 0 ∨ i = 1 ∨ i = 2 ∨ i = 3 ∨ i = 4 ∨ i = 5 ∨ i = 6 ∨ i = 7 ∨ i = 8 := by omega
    rcases this with rfl | rfl | rfl | rfl | rfl | rfl | rfl | rfl | rfl <;> exact ⟨_, (by decide), new_cell _ _ _ _ _ rfl⟩
  · rintro e w1 ⟨⟨s, hs, rfl⟩, hp⟩
    have P := Lib.hid hp
    clear hp
    go_wp2_with fail
    go_ret
    exact ⟨⟨s, hs, rfl⟩, P.out.1, grown_then (grown_alloc _ _ _) P.out.2⟩
set_option maxHeartbeats 1000000 in
theorem drawInt (n c : Nat) (p : Option Addr) (w : World) (hn : n ≤ 65536) (hB : BytesAt w w.heap.size p n) :
    Calls Tryd.prog 9 #[.slice p n c] w fun e w' => (∃ z : Int, e = .returned (.int .i64 z)) ∧ Below w.heap.size w w' := by
  have B := Lib.hid hB
  have C := Lib.hid (CurAt.new w p n c)
  clear hB
  go_enter Tryd.func9, Tryd.ntmps9
  go_wp2_with fail
  refine (pick_any w.heap.size n c 0 p 1000 _ (by omega) (by omega) (by omega) hn C.out (B.out.alloc _)).mono ?_
  rintro e w1 ⟨⟨r, r0, r1, rfl⟩, ⟨k1, hk1, hc1⟩, hg1⟩
  have C1 := Lib.hid hc1
  have G1 := Lib.hid (grown_then (grown_alloc w (.cells #[.slice p n c, .int .i64 0, .int .u64 0] 37) (some w.heap.size)) hg1)
  have B1 := Lib.hid ((B.out.alloc (.cells #[.slice p n c, .int .i64 0, .int .u64 0] 37)).turned (Nat.le_refl _) hg1)
  have hr1 := hc1.room
  clear hc1 hg1
  go_wp2_with fail
  refine (among_any w.heap.size n c k1 p _ 9 9 _ (by omega) (by omega) (by omega) hn (C1.out.alloc _) (B1.out.alloc _) (by omega) ?_).mono ?_
  · intro i hi
    have : i = 0 ∨ i = 1 ∨ i = 2 ∨ i = 3 ∨ i = 4 ∨ i = 5 ∨ i = 6 ∨ i = 7 ∨ i = 8 := by omega
    rcases this with rfl | rfl | rfl | rfl | rfl | rfl | rfl | rfl | rfl <;> exact ⟨_, new_cell _ _ _ _ _ rfl⟩
  · rintro e w2 ⟨⟨z, rfl⟩, hp⟩
    have G2 := Lib.hid (grown_then G1.out (grown_then (grown_alloc _ _ _) hp.2))
    clear hp
    go_wp2_with fail
    go_ret
    exact ⟨⟨z, rfl⟩, below_of_grown G2.out (Nat.le_refl _)⟩
set_option maxHeartbeats 1000000 in
theorem drawText (n c : Nat) (p : Option Addr) (w : World) (hn : n ≤ 65536) (hB : BytesAt w w.heap.size p n) :
    Calls Tryd.prog 12 #[.slice p n c] w fun e w' => AString 30 e ∧ Below w.heap.size w w' := by
  have B := Lib.hid hB
  have C := Lib.hid (CurAt.new w p n c)
  clear hB
  go_enter Tryd.func12, Tryd.ntmps12
  go_wp2_with fail
  refine (one_any w.heap.size n c 0 p 2 _ (by omega) (by omega) (by omega) hn C.out (B.out.alloc _)).mono ?_
  rintro e w1 ⟨⟨r, rfl⟩, ⟨k1, hk1, hc1⟩, hg1⟩
  have C1 := Lib.hid hc1
  have G1 := Lib.hid (grown_then (grown_alloc w (.cells #[.slice p n c, .int .i64 0, .int .u64 0] 37) (some w.heap.size)) hg1)
  have B1 := Lib.hid ((B.out.alloc (.cells #[.slice p n c, .int .i64 0, .int .u64 0] 37)).turned (Nat.le_refl _) hg1)
  have hr1 := hc1.room
  clear hc1 hg1
  cases r with
  | true =>
    go_wp2_with fail
    refine (of_any w.heap.size n c k1 p _ 11 11 30 _ (by omega) (by omega) (by omega) hn (C1.out.alloc _) (B1.out.alloc _) (by omega) ?_).mono ?_
    · intro i hi
      have : i = 0 ∨ i = 1 ∨ i = 2 ∨ i = 3 ∨ i = 4 ∨ i = 5 ∨ i = 6 ∨ i = 7 ∨ i = 8 ∨ i = 9 ∨ i = 10 := by omega
      rcases this with rfl | rfl | rfl | rfl | rfl | rfl | rfl | rfl | rfl | rfl | rfl <;> exact ⟨_, (by decide), new_cell _ _ _ _ _ rfl⟩
    · rintro e w2 ⟨⟨s, hs, rfl⟩, hp⟩
      have G2 := Lib.hid (grown_then G1.out (grown_then (grown_alloc _ _ _) hp.2))
      clear hp
      go_wp2_with fail
      go_ret
      exact ⟨⟨s, hs, rfl⟩, below_of_grown G2.out (Nat.le_refl _)⟩
  | false =>
    go_wp2_with fail
    refine (pick_any w.heap.size n c k1 p 2000 _ (by omega) (by omega) (by omega) hn C1.out B1.out).mono ?_
    rintro e w2 ⟨⟨z, z0, z1, rfl⟩, hp⟩
    have G2 := Lib.hid (grown_then G1.out hp.2)
    clear hp
    go_wp2_with fail
    refine (l1Num_any _ _ (by omega) (by omega)).mono ?_
    rintro e w3 ⟨rfl, m, rfl⟩
    have SZ := numB_size (z - 1000) (by omega) (by omega)
    go_wp2_with fail
    go_ret
    exact ⟨⟨_, by omega, rfl⟩, below_drewN (below_of_grown G2.out (Nat.le_refl _)) m⟩
theorem grown_none {w w' : World} (h : w.grownBy w' none) (r : Option Nat) : w.grownBy w' r := ⟨h.os, h.tape, h.output, h.size, fun i hi _ => h.block i hi (by simp)⟩
theorem byteInfo : (Tryd.prog.info? 5).map (fun i => (i.zero, i.size, i.bytes)) = some (some (.int .u8 0), 1, 1) := by kernel_rfl
theorem conv_zero {w3 : World} {base g q : Nat} (hown : w3.ownsRow base 5 1 (.slice (some ⟨g, 0, none⟩) q q) q (madeCells (Value.int .u8 0).cells (q * 1)).toList) :
    (convert 22 9 (.slice (some ⟨g, 0, none⟩) q q)).run Tryd.prog w3 = .ok (.string ⟨(List.replicate q (0 : UInt8)).toArray⟩) w3 := by
  have := run_convert_bytes_back (P := Tryd.prog) w3 22 9 5 ⟨g, 0, none⟩ q (List.replicate q (0 : UInt8)) Tryd.underlying22 Tryd.underlying5 Tryd.underlying9 (fun j hj => by
    have hj2 : j < q := by simpa using hj
    have h2 := hown.cells (g := g) rfl j (.int .u8 0) (by
      rw [show (Value.int .u8 0).cells = #[Value.int .u8 0] from rfl, Nat.mul_one, toList_madeCells_one, List.getElem?_replicate, if_pos hj2])
    rw [h2]; simp)
  simpa using this
set_option maxHeartbeats 1000000 in
theorem drawSeal (n c : Nat) (p : Option Addr) (w : World) (hn : n ≤ 65536) (hB : BytesAt w w.heap.size p n) :
    Calls Tryd.prog 15 #[.slice p n c] w fun e w' => AString 5000 e ∧ Below w.heap.size w w' := by
  have B := Lib.hid hB
  obtain ⟨i0, hi, hz0, hz1, hz2⟩ := info_parts byteInfo
  have C := Lib.hid (CurAt.new w p n c)
  clear hB
  go_enter Tryd.func15, Tryd.ntmps15
  go_wp2_with fail
  refine (one_any w.heap.size n c 0 p 20 _ (by omega) (by omega) (by omega) hn C.out (B.out.alloc _)).mono ?_
  rintro e w1 ⟨⟨r, rfl⟩, ⟨k1, hk1, hc1⟩, hg1⟩
  have C1 := Lib.hid hc1
  have G1 := Lib.hid (grown_then (grown_alloc w (.cells #[.slice p n c, .int .i64 0, .int .u64 0] 37) (some w.heap.size)) hg1)
  have B1 := Lib.hid ((B.out.alloc (.cells #[.slice p n c, .int .i64 0, .int .u64 0] 37)).turned (Nat.le_refl _) hg1)
  have hr1 := hc1.room
  clear hc1 hg1
  cases r with
  | true =>
    go_wp2_with fail
    refine (pick_any w.heap.size n c k1 p 10 _ (by omega) (by omega) (by omega) hn C1.out B1.out).mono ?_
    rintro e w2 ⟨⟨z, z0, z1, rfl⟩, hp⟩
    have G2 := Lib.hid (grown_then G1.out hp.2)
    clear hp
    obtain ⟨q, hq0⟩ : ∃ q : Nat, (3990 : Int) + z = (q : Int) := ⟨(3990 + z).toNat, by omega⟩
    have q1 : q ≤ 4000 := by omega
    have HQ := Lib.hid hq0
    clear hq0
    have c1 : i0.bytes * q ≤ 281474976710656 := by rw [hz2]; omega
    have c2 : q ≤ maxLen := by unfold maxLen; omega
    go_wp2_with (at_make; refine wpList_make_full _ rfl _ _ 22 rfl w2.heap.size 5 i0 (.int .u8 0) 1 Tryd.underlying22 hi hz0 hz1 .i64 .i64 _ _ q rfl rfl HQ.out HQ.out c1 c2 (Nat.le_refl _) ?_; intro w3 hown hg; have hconv := conv_zero hown)
    have G3 := Lib.hid (grown_then G2.out (grown_none hg (some w.heap.size)))
    clear hg hown c1 c2
    go_ret
    exact ⟨⟨_, by show (List.replicate q (0 : UInt8)).toArray.size ≤ 5000; simp; omega, rfl⟩, below_of_grown G3.out (Nat.le_refl _)⟩
  | false =>
    go_wp2_with fail
    refine (any1_any w.heap.size n c k1 p _ (by omega) hn C1.out B1.out).mono ?_
    rintro e w2 ⟨⟨s, hs, rfl⟩, hp⟩
    have G2 := Lib.hid (grown_then G1.out hp.2)
    clear hp
    go_wp2_with fail
    go_ret
    exact ⟨⟨s, by omega, rfl⟩, below_of_grown G2.out (Nat.le_refl _)⟩
end Go.Proofs.YthpkabjgjgmnoaaDoor
