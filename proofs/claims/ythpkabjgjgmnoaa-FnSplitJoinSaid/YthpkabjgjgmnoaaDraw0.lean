/- What the laws' draws are made of: the cursor's block, new blocks, a text out of a few. -/
import Derived.Test.YthpkabjgjgmnoaaCur
import Derived.WalkKit
import Derived.ProofKit
import Derived.Outline
import Derived.Lib.Hide
import Derived.WalkSpells
import Derived.Laws.IdiomStrings
import Derived.Laws.OwnMore
namespace Go.Proofs.Ythpkabjgjgmnoaa
open Go.RowKit
set_option linter.unusedVariables false
theorem new_cell (w : World) (xs : Array Value) (t : TypeId) (i : Nat) (v : Value) (h : xs[i]? = some v) : (w.alloc (.cells xs t)).cell? ⟨w.heap.size, i, none⟩ = some v := by
  have hh : (w.alloc (.cells xs t)).heap[w.heap.size]? = some (.cells xs t (0, 0)) := by
    show (w.heap.push _)[w.heap.size]? = _
    simp
  unfold World.cell?
  simp only [hh]
  exact h
theorem grown_alloc (w : World) (o : Obj) (r : Option Nat) : w.grownBy (w.alloc o) r :=
  ⟨rfl, rfl, rfl, by show w.heap.size ≤ (w.heap.push o).size; simp, fun i hi _ => by show (w.heap.push o)[i]? = w.heap[i]?; rw [Array.getElem?_push, if_neg (by omega)]⟩
theorem CurAt.room {w : World} {a n c k : Nat} {p : Option Addr} (h : CurAt w a p n c k) : a < w.heap.size := by
  obtain ⟨s, _, _, hb⟩ := h
  exact (Array.getElem?_eq_some_iff.1 hb).1
theorem CurAt.alloc {w : World} {a n c k : Nat} {p : Option Addr} (h : CurAt w a p n c k) (o : Obj) : CurAt (w.alloc o) a p n c k := by
  have hr := h.room
  obtain ⟨s, s0, s1, hb⟩ := h
  refine ⟨s, s0, s1, ?_⟩
  show (w.heap.push o)[a]? = _
  rw [Array.getElem?_push, if_neg (by omega)]; exact hb
theorem CurAt.new (w : World) (p : Option Addr) (n c : Nat) : CurAt (w.alloc (.cells #[.slice p n c, .int .i64 0, .int .u64 0] 44)) w.heap.size p n c 0 := by
  refine ⟨0, by omega, by omega, ?_⟩
  show (w.heap.push _)[w.heap.size]? = _
  simp
theorem BytesAt.more {w : World} {B B' n : Nat} {p : Option Addr} (h : BytesAt w B p n) (hB : B ≤ B') : BytesAt w B' p n := by
  intro i hi
  obtain ⟨b, off, z, e, hb, z0, z1, hc⟩ := h i hi
  exact ⟨b, off, z, e, by omega, z0, z1, hc⟩
theorem BytesAt.alloc {w : World} {B n : Nat} {p : Option Addr} (h : BytesAt w B p n) (o : Obj) : BytesAt (w.alloc o) B p n := by
  intro i hi
  obtain ⟨b, off, z, e, hb, z0, z1, hc⟩ := h i hi
  refine ⟨b, off, z, e, hb, z0, z1, ?_⟩
  rw [← hc]
  exact World.cell?_of_block ((grown_alloc w o none).block b (cell_room hc) (by simp))
theorem below_of_grown {w w' : World} {B : Nat} (h : w.grownBy w' (some B)) (hB : w.heap.size ≤ B) : Below w.heap.size w w' :=
  ⟨h.os, h.tape, h.output, h.size, fun i hi => h.block i hi (fun e => by injection e; omega)⟩
theorem any1_any (a n c k : Nat) (p : Option Addr) (w : World) (hk : k ≤ 900000) (hn : n ≤ 65536) (hC : CurAt w a p n c k) (hB : BytesAt w a p n) :
    Calls Try.prog 25 #[.pointer (some ⟨a, 0, none⟩)] w fun e w' => AString 10 e ∧ CurPost w a p n c k 2 w' := by
  have C := Lib.hid hC
  have B := Lib.hid hB
  have hr := hC.room
  clear hC hB
  go_enter Try.func25, Try.ntmps25
  go_wp2_with fail
  refine (of_any a n c k p _ 9 9 10 _ (by omega) (by omega) hk hn (C.out.alloc _) (B.out.alloc _) (by omega) ?_).mono ?_
  · intro i hi
    have : i = 0 ∨ i = 1 ∨ i = 2 ∨ i = 3 ∨ i = 4 ∨ i = 5 ∨ i = 6 ∨ i = 7 ∨ i = 8 := by omega
    rcases this with rfl | rfl | rfl | rfl | rfl | rfl | rfl | rfl | rfl <;> exact ⟨_, (by decide), new_cell _ _ _ _ _ rfl⟩
  · rintro e w1 ⟨⟨s, hs, rfl⟩, hp⟩
    have P := Lib.hid hp
    clear hp
    go_wp2_with fail
    go_ret
    exact ⟨⟨s, hs, rfl⟩, P.out.1, grown_then (grown_alloc _ _ _) P.out.2⟩
theorem grown_none {w w' : World} (h : w.grownBy w' none) (r : Option Nat) : w.grownBy w' r := ⟨h.os, h.tape, h.output, h.size, fun i hi _ => h.block i hi (by simp)⟩
theorem byteInfo : (Try.prog.info? 5).map (fun i => (i.zero, i.size, i.bytes)) = some (some (.int .u8 0), 1, 1) := by kernel_rfl
theorem conv_zero {w3 : World} {base g q : Nat} (hown : w3.ownsRow base 5 1 (.slice (some ⟨g, 0, none⟩) q q) q (madeCells (Value.int .u8 0).cells (q * 1)).toList) :
    (convert 22 9 (.slice (some ⟨g, 0, none⟩) q q)).run Try.prog w3 = .ok (.string ⟨(List.replicate q (0 : UInt8)).toArray⟩) w3 := by
  have := run_convert_bytes_back (P := Try.prog) w3 22 9 5 ⟨g, 0, none⟩ q (List.replicate q (0 : UInt8)) Try.underlying22 Try.underlying5 Try.underlying9 (fun j hj => by
    have hj2 : j < q := by simpa using hj
    have h2 := hown.cells (g := g) rfl j (.int .u8 0) (by
      rw [show (Value.int .u8 0).cells = #[Value.int .u8 0] from rfl, Nat.mul_one, toList_madeCells_one, List.getElem?_replicate, if_pos hj2])
    rw [h2]; simp)
  simpa using this
end Go.Proofs.Ythpkabjgjgmnoaa
