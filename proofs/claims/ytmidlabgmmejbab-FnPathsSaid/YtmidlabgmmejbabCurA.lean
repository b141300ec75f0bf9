/- The cursor that draws the laws' inputs from bytes, for the laws of fractions and of trees. -/
import Derived.Test.YtmidlabgmmejbabIsTree
import Derived.WalkKit
import Derived.ProofKit
import Derived.Outline
import Derived.Lib.Hide
import Derived.WalkSpells
import Derived.WalkSmall
import Derived.Deep.QuietTactic
import Derived.BigQuiet
import Derived.Laws.Rows
import Derived.Laws.BitsAllLaws
import Derived.IntWalk
import Derived.Laws.IdiomStrings
import Derived.Laws.OwnMore
namespace Go.Proofs.Ytmidlabgmmejbab
open Go.RowKit
set_option linter.unusedVariables false
/-- Bytes that came in: n cells from p on, below block B. -/
def BytesAt (w : World) (B : Nat) (p : Option Addr) (n : Nat) : Prop :=
  ∀ i : Nat, i < n → ∃ b off z, p = some ⟨b, off, none⟩ ∧ b < B ∧ 0 ≤ z ∧ z ≤ 255 ∧ w.cell? ⟨b, off + i, none⟩ = some (.int .u8 z)
/-- The cursor in block a, which has been read k times. -/
def CurAt (w : World) (a : Nat) (p : Option Addr) (n c k : Nat) : Prop :=
  ∃ s : Int, 0 ≤ s ∧ s ≤ 18446744073709551615 ∧ w.heap[a]? = some (.cells #[.slice p n c, .int .i64 k, .int .u64 s] 104 (0, 0))
theorem curType_cells {w : World} {a : Nat} {x y z : Value} {t : TypeId} (h : w.heap[a]? = some (.cells #[x, y, z] t (0, 0))) (u v : Value) :
    ((w.setCell ⟨a, 1, none⟩ u).setCell ⟨a, 2, none⟩ v).heap[a]? = some (.cells #[x, u, v] t (0, 0)) := by
  have h1 := heap_setCell_same w a 1 #[x, y, z] t u h
  have h2 := heap_setCell_same _ a 2 _ t v h1
  exact h2
theorem wrap_u64_bd (x : Int) : 0 ≤ IntKind.u64.wrap x ∧ IntKind.u64.wrap x ≤ 18446744073709551615 := by
  have := IntKind.wrap_u64 x
  omega
theorem cur_step {w : World} {a n c k : Nat} {p : Option Addr} {s x : Int} (h : w.heap[a]? = some (.cells #[.slice p n c, .int .i64 k, .int .u64 s] 104 (0, 0))) (m q : Nat) :
    CurAt ((((w.drewN m).setCell ⟨a, 1, none⟩ (.int .i64 ((k : Int) + 1))).setCell ⟨a, 2, none⟩ (.int .u64 (IntKind.u64.wrap x))).drewN q) a p n c (k + 1) ∧
      w.grownBy ((((w.drewN m).setCell ⟨a, 1, none⟩ (.int .i64 ((k : Int) + 1))).setCell ⟨a, 2, none⟩ (.int .u64 (IntKind.u64.wrap x))).drewN q) (some a) := by
  obtain ⟨b0, b1⟩ := wrap_u64_bd x
  have h' : (w.drewN m).heap[a]? = some (.cells #[.slice p n c, .int .i64 k, .int .u64 s] 104 (0, 0)) := h
  refine ⟨⟨IntKind.u64.wrap x, b0, b1, curType_cells h' _ _⟩, ⟨rfl, rfl, rfl, ?_, ?_⟩⟩
  · simp [World.setCell, World.drewN]
  · intro i hi hne
    have hne' : i ≠ a := fun e => hne (by rw [e])
    show ((((w.drewN m).setCell ⟨a, 1, none⟩ _).setCell ⟨a, 2, none⟩ _)).heap[i]? = _
    rw [heap_setCell_other _ _ _ _ hne', heap_setCell_other _ _ _ _ hne']; rfl
theorem byte_of (x : Int) (h : 0 ≤ x ∧ x ≤ 18446744073709551615) : 0 ≤ wrap64 (bits .and .u64 (x / 1099511627776) 255) ∧ wrap64 (bits .and .u64 (x / 1099511627776) 255) ≤ 255 := by
  have e := u64_and (x / 1099511627776) 255 (by omega) (by omega) (by omega) (by omega)
  have l : (x / 1099511627776).toNat &&& (255 : Int).toNat ≤ 255 := Nat.and_le_right
  rw [e, IntWalk.wrap64_in _ ⟨by omega, by omega⟩]
  omega
theorem byte_end {e : Value} (x : Int) (h : 0 ≤ x ∧ x ≤ 18446744073709551615) (he : e = .int .i64 (wrap64 (bits .and .u64 (x / 1099511627776) 255)) := by rfl) : ∃ b : Int, 0 ≤ b ∧ b ≤ 255 ∧ Ending.returned e = .returned (.int .i64 b) :=
  ⟨_, (byte_of x h).1, (byte_of x h).2, by rw [he]⟩
set_option maxHeartbeats 1000000 in
theorem next_any (a n c k : Nat) (p : Option Addr) (w : World) (hk : k ≤ 1000000) (hn : n ≤ 65536) (hC : CurAt w a p n c k) (hB : BytesAt w a p n) :
    Calls Try.prog 130 #[.pointer (some ⟨a, 0, none⟩)] w fun e w' => (∃ b : Int, 0 ≤ b ∧ b ≤ 255 ∧ e = .returned (.int .i64 b)) ∧ CurAt w' a p n c (k + 1) ∧ w.grownBy w' (some a) := by
  obtain ⟨s, s0, s1, hb⟩ := hC
  have c0 : w.cell? ⟨a, 0, none⟩ = some (.slice p n c) := by simp [World.cell?, hb]
  have c1 : w.cell? ⟨a, 1, none⟩ = some (.int .i64 k) := by simp [World.cell?, hb]
  have c2 : w.cell? ⟨a, 2, none⟩ = some (.int .u64 s) := by simp [World.cell?, hb]
  have f1 : w.frozen? ⟨a, 1, none⟩ = false := by simp [World.frozen?, hb]
  have f2 : w.frozen? ⟨a, 2, none⟩ = false := by simp [World.frozen?, hb]
  have H := Lib.hid hb
  have BB := Lib.hid hB
  clear hb hB
  by_cases hlt : k < n
  · obtain ⟨b, off, z, rfl, hbl, z0, z1, hc⟩ := BB.out k hlt
    have i0 : (0 : Int) ≤ (k : Int) := by omega
    have i1 : (k : Int) < (n : Int) := by omega
    go_enter Try.func130, Try.ntmps130
    go_wp2
    go_quiet (fail)
    go_wp2
    go_quiet (fail)
    go_wp2
    go_quiet (fail)
    go_wp2
    go_ret
    obtain ⟨h1, h2⟩ := cur_step H.out _ _
    exact ⟨⟨z, z0, z1, rfl⟩, h1, h2⟩
  · have hlt2 : ¬ (k : Int) < (n : Int) := by omega
    go_enter Try.func130, Try.ntmps130
    go_wp2
    go_quiet (fail)
    go_wp2
    go_quiet (fail)
    go_wp2
    go_ret
    obtain ⟨h1, h2⟩ := cur_step H.out _ _
    exact ⟨byte_end _ (wrap_u64_bd _), h1, h2⟩
theorem grown_self (w : World) (r : Option Nat) : w.grownBy w r := ⟨rfl, rfl, rfl, Nat.le_refl _, fun _ _ _ => rfl⟩
theorem grown_then {a b c : World} {r : Option Nat} (h : a.grownBy b r) (k : b.grownBy c r) : a.grownBy c r :=
  ⟨k.os.trans h.os, k.tape.trans h.tape, k.output.trans h.output, Nat.le_trans h.size k.size, fun i hi hne => (k.block i (Nat.lt_of_lt_of_le hi h.size) hne).trans (h.block i hi hne)⟩
theorem BytesAt.turned {w w' : World} {B a n : Nat} {p : Option Addr} (h : BytesAt w B p n) (hB : B ≤ a) (hg : w.grownBy w' (some a)) : BytesAt w' B p n := by
  intro i hi
  obtain ⟨b, off, z, e, hb, z0, z1, hc⟩ := h i hi
  refine ⟨b, off, z, e, hb, z0, z1, ?_⟩
  rw [← hc]
  exact World.cell?_of_block (hg.block b (cell_room' hc) (fun e => by injection e; omega))
/-- What a call that reads the cursor at most d times leaves. -/
def CurPost (w : World) (a : Nat) (p : Option Addr) (n c k d : Nat) (w' : World) : Prop := (∃ k', k' ≤ k + d ∧ CurAt w' a p n c k') ∧ w.grownBy w' (some a)
/-- A number of a range. -/
def InRange (N : Int) (e : Ending) : Prop := ∃ r : Int, 0 ≤ r ∧ r < N ∧ e = .returned (.int .i64 r)
set_option maxHeartbeats 1000000 in
theorem pick_any (a n c k : Nat) (p : Option Addr) (N : Int) (w : World) (hN : 1 ≤ N) (hN2 : N ≤ 4000000) (hk : k ≤ 900000) (hn : n ≤ 65536) (hC : CurAt w a p n c k) (hB : BytesAt w a p n) :
    Calls Try.prog 79 #[.pointer (some ⟨a, 0, none⟩), .int .i64 N] w fun e w' => InRange N e ∧ CurPost w a p n c k 2 w' := by
  by_cases h1 : N ≤ 1
  · have C := Lib.hid hC
    clear hC hB
    go_enter Try.func79, Try.ntmps79
    go_wp2_with fail
    go_ret
    exact ⟨⟨0, by omega, by omega, rfl⟩, ⟨k, by omega, C.out⟩, grown_self _ _⟩
  · have NX := Lib.hid (next_any a n c k p w (by omega) hn hC hB)
    have B := Lib.hid hB
    clear hC hB
    by_cases h2 : N ≤ 200
    · go_enter Try.func79, Try.ntmps79
      go_wp2_with fail
      refine NX.out.mono ?_
      rintro e w1 ⟨⟨b, b0, b1, rfl⟩, hc1, hg1⟩
      have C1 := Lib.hid hc1
      have G1 := Lib.hid hg1
      clear hc1 hg1
      go_wp2_with fail
      go_ret
      exact ⟨⟨b % N, Int.emod_nonneg _ (by omega), Int.emod_lt_of_pos _ (by omega), rfl⟩, ⟨k + 1, by omega, C1.out⟩, G1.out⟩
    · go_enter Try.func79, Try.ntmps79
      go_wp2_with fail
      refine NX.out.mono ?_
      rintro e w1 ⟨⟨b, b0, b1, rfl⟩, hc1, hg1⟩
      have NX2 := Lib.hid (next_any a n c (k + 1) p w1 (by omega) hn hc1 (B.out.turned (Nat.le_refl _) hg1))
      have G1 := Lib.hid hg1
      clear hc1 hg1
      go_wp2_with fail
      refine NX2.out.mono ?_
      rintro e w2 ⟨⟨b', b0', b1', rfl⟩, hc2, hg2⟩
      have C2 := Lib.hid hc2
      have G2 := Lib.hid (grown_then G1.out hg2)
      clear hc2 hg2
      go_wp2_with fail
      go_ret
      exact ⟨⟨(b * 256 + b') % N, Int.emod_nonneg _ (by omega), Int.emod_lt_of_pos _ (by omega), rfl⟩, ⟨k + 2, by omega, C2.out⟩, G2.out⟩
theorem one_any (a n c k : Nat) (p : Option Addr) (N : Int) (w : World) (hN : 1 ≤ N) (hN2 : N ≤ 4000000) (hk : k ≤ 900000) (hn : n ≤ 65536) (hC : CurAt w a p n c k) (hB : BytesAt w a p n) :
    Calls Try.prog 85 #[.pointer (some ⟨a, 0, none⟩), .int .i64 N] w fun e w' => (∃ b : Bool, e = .returned (.bool b)) ∧ CurPost w a p n c k 2 w' := by
  have PK := Lib.hid (pick_any a n c k p N w hN hN2 hk hn hC hB)
  clear hC hB
  go_enter Try.func85, Try.ntmps85
  go_wp2_with fail
  refine PK.out.mono ?_
  rintro e w1 ⟨⟨r, r0, r1, rfl⟩, hp⟩
  have P := Lib.hid hp
  clear hp
  go_wp2_with fail
  all_goals go_ret
  all_goals exact ⟨⟨_, rfl⟩, P.out⟩
theorem new_cell (w : World) (xs : Array Value) (t : TypeId) (i : Nat) (v : Value) (h : xs[i]? = some v) : (w.alloc (.cells xs t)).cell? ⟨w.heap.size, i, none⟩ = some v := by
  have hh : (w.alloc (.cells xs t)).heap[w.heap.size]? = some (.cells xs t (0, 0)) := by
    show (w.heap.push _)[w.heap.size]? = _
    simp
  unfold World.cell?
  simp only [hh]
  exact h
theorem grown_alloc (w : World) (o : Obj) (r : Option Nat) : w.grownBy (w.alloc o) r :=
  ⟨rfl, rfl, rfl, by show w.heap.size ≤ (w.heap.push o).size; simp, fun i hi _ => by show (w.heap.push o)[i]? = w.heap[i]?; rw [Array.getElem?_push, if_neg (by omega)]⟩
theorem CurAt.room {w : World} {a n c k : Nat} {p : Option Addr} (h : CurAt w a p n c k) : a < w.heap.size := by
  obtain ⟨s, _, _, hb⟩ := h
  exact (Array.getElem?_eq_some_iff.1 hb).1
theorem CurAt.alloc {w : World} {a n c k : Nat} {p : Option Addr} (h : CurAt w a p n c k) (o : Obj) : CurAt (w.alloc o) a p n c k := by
  have hr := h.room
  obtain ⟨s, s0, s1, hb⟩ := h
  refine ⟨s, s0, s1, ?_⟩
  show (w.heap.push o)[a]? = _
  rw [Array.getElem?_push, if_neg (by omega)]; exact hb
theorem CurAt.new (w : World) (p : Option Addr) (n c : Nat) : CurAt (w.alloc (.cells #[.slice p n c, .int .i64 0, .int .u64 0] 104)) w.heap.size p n c 0 := by
  refine ⟨0, by omega, by omega, ?_⟩
  show (w.heap.push _)[w.heap.size]? = _
  simp
theorem BytesAt.more {w : World} {B B' n : Nat} {p : Option Addr} (h : BytesAt w B p n) (hB : B ≤ B') : BytesAt w B' p n := by
  intro i hi
  obtain ⟨b, off, z, e, hb, z0, z1, hc⟩ := h i hi
  exact ⟨b, off, z, e, by omega, z0, z1, hc⟩
theorem BytesAt.alloc {w : World} {B n : Nat} {p : Option Addr} (h : BytesAt w B p n) (o : Obj) : BytesAt (w.alloc o) B p n := by
  intro i hi
  obtain ⟨b, off, z, e, hb, z0, z1, hc⟩ := h i hi
  refine ⟨b, off, z, e, hb, z0, z1, ?_⟩
  rw [← hc]
  exact World.cell?_of_block ((grown_alloc w o none).block b (cell_room' hc) (by simp))
theorem below_of_grown {w w' : World} {B : Nat} (h : w.grownBy w' (some B)) (hB : w.heap.size ≤ B) : Below w.heap.size w w' :=
  ⟨h.os, h.tape, h.output, h.size, fun i hi => h.block i hi (fun e => by injection e; omega)⟩
theorem among_any (a n c k : Nat) (p : Option Addr) (g m cap : Nat) (w : World) (hm : 1 ≤ m) (hm2 : m ≤ 1000000) (hk : k ≤ 900000) (hn : n ≤ 65536) (hC : CurAt w a p n c k) (hB : BytesAt w a p n)
    (hga : g ≠ a) (hs : ∀ i : Nat, i < m → ∃ z : Int, w.cell? ⟨g, i, none⟩ = some (.int .i64 z)) :
    Calls Try.prog 80 #[.pointer (some ⟨a, 0, none⟩), .slice (some ⟨g, 0, none⟩) m cap] w fun e w' => (∃ z : Int, e = .returned (.int .i64 z)) ∧ CurPost w a p n c k 2 w' := by
  have PK := Lib.hid (pick_any a n c k p m w (by omega) (by omega) hk hn hC hB)
  have S := Lib.hid hs
  clear hC hB hs
  go_enter Try.func80, Try.ntmps80
  go_wp2_with fail
  refine PK.out.mono ?_
  rintro e w1 ⟨⟨r, r0, r1, rfl⟩, hp⟩
  obtain ⟨z, hc⟩ := S.out r.toNat (by omega)
  have hc1 : w1.cell? ⟨g, r.toNat, none⟩ = some (.int .i64 z) := by
    rw [← hc]
    exact World.cell?_of_block (hp.2.block g (cell_room' hc) (fun e => by injection e; omega))
  have P := Lib.hid hp
  clear hp hc
  go_wp2_with fail
  go_ret
  exact ⟨⟨z, rfl⟩, P.out⟩
end Go.Proofs.Ytmidlabgmmejbab
