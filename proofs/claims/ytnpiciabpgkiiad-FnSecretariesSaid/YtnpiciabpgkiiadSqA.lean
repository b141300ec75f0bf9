/- CurA, CurQ, EqPr, FracU, PrsF, QstR, QstW, Rise, RnkP, RnkM, RnkI, WlkP, WlkI, SecI, SecM, SecB, StbP, SecF, StbI, StbM, StbE, WinM, Vsm, Vcut in one text. -/
import Derived.Test.YtnpiciabpgkiiadIsTree
import Derived.Test.YtnpiciabpgkiiadInS
import Derived.Test.YtnpiciabpgkiiadChecked
import Derived.Test.YtnpiciabpgkiiadFracT
import Derived.Test.YtnpiciabpgkiiadPrs
import Derived.Test.YtnpiciabpgkiiadKidSum
import Derived.Test.YtnpiciabpgkiiadQstD
import Derived.Test.YtnpiciabpgkiiadEvP
import Derived.Test.YtnpiciabpgkiiadLawT
import Derived.Test.YtnpiciabpgkiiadSumS
import Derived.Test.YtnpiciabpgkiiadQstP
import Derived.Test.YtnpiciabpgkiiadRes
import Derived.Test.YtnpiciabpgkiiadFracW
import Derived.Test.YtnpiciabpgkiiadSecP
import Derived.Test.YtnpiciabpgkiiadFracA
import Derived.Test.YtnpiciabpgkiiadFracD
import Derived.Test.YtnpiciabpgkiiadWinQ
import Derived.WalkKit
import Derived.ProofKit
import Derived.Outline
import Derived.Lib.Hide
import Derived.WalkSpells
import Derived.WalkSmall
import Derived.Deep.QuietTactic
import Derived.BigQuiet
import Derived.Laws.Rows
import Derived.Laws.BitsAllLaws
import Derived.IntWalk
import Derived.Laws.IdiomStrings
import Derived.Laws.OwnMore
import Derived.Deep.DeepCutAuto
import Derived.ChangeKeysEq
import Derived.KernelRfl
import Derived.Below
import Derived.WalkLawsBesides
import Derived.Deep.RegionHeld3
import Derived.Deep.LoopGhost
import Derived.Maps.AppendAt
namespace Go.Proofs.Ytnpiciabpgkiiad
open Go.RowKit
set_option linter.unusedVariables false
/-- Bytes that came in: n cells from p on, below block B. -/
def BytesAt (w : World) (B : Nat) (p : Option Addr) (n : Nat) : Prop :=
  ∀ i : Nat, i < n → ∃ b off z, p = some ⟨b, off, none⟩ ∧ b < B ∧ 0 ≤ z ∧ z ≤ 255 ∧ w.cell? ⟨b, off + i, none⟩ = some (.int .u8 z)
/-- The cursor in block a, which has been read k times. -/
def CurAt (w : World) (a : Nat) (p : Option Addr) (n c k : Nat) : Prop :=
  ∃ s : Int, 0 ≤ s ∧ s ≤ 18446744073709551615 ∧ w.heap[a]? = some (.cells #[.slice p n c, .int .i64 k, .int .u64 s] 92 (0, 0))
theorem curType_cells {w : World} {a : Nat} {x y z : Value} {t : TypeId} (h : w.heap[a]? = some (.cells #[x, y, z] t (0, 0))) (u v : Value) :
    ((w.setCell ⟨a, 1, none⟩ u).setCell ⟨a, 2, none⟩ v).heap[a]? = some (.cells #[x, u, v] t (0, 0)) := by
  have h1 := heap_setCell_same w a 1 #[x, y, z] t u h
  have h2 := heap_setCell_same _ a 2 _ t v h1
  exact h2
theorem wrap_u64_bd (x : Int) : 0 ≤ IntKind.u64.wrap x ∧ IntKind.u64.wrap x ≤ 18446744073709551615 := by
  have := IntKind.wrap_u64 x
  omega
theorem cur_step {w : World} {a n c k : Nat} {p : Option Addr} {s x : Int} (h : w.heap[a]? = some (.cells #[.slice p n c, .int .i64 k, .int .u64 s] 92 (0, 0))) (m q : Nat) :
    CurAt ((((w.drewN m).setCell ⟨a, 1, none⟩ (.int .i64 ((k : Int) + 1))).setCell ⟨a, 2, none⟩ (.int .u64 (IntKind.u64.wrap x))).drewN q) a p n c (k + 1) ∧
      w.grownBy ((((w.drewN m).setCell ⟨a, 1, none⟩ (.int .i64 ((k : Int) + 1))).setCell ⟨a, 2, none⟩ (.int .u64 (IntKind.u64.wrap x))).drewN q) (some a) := by
  obtain ⟨b0, b1⟩ := wrap_u64_bd x
  have h' : (w.drewN m).heap[a]? = some (.cells #[.slice p n c, .int .i64 k, .int .u64 s] 92 (0, 0)) := h
  refine ⟨⟨IntKind.u64.wrap x, b0, b1, curType_cells h' _ _⟩, ⟨rfl, rfl, rfl, ?_, ?_⟩⟩
  · simp [World.setCell, World.drewN]
  · intro i hi hne
    have hne' : i ≠ a := fun e => hne (by rw [e])
    show ((((w.drewN m).setCell ⟨a, 1, none⟩ _).setCell ⟨a, 2, none⟩ _)).heap[i]? = _
    rw [heap_setCell_other _ _ _ _ hne', heap_setCell_other _ _ _ _ hne']; rfl
theorem byte_of (x : Int) (h : 0 ≤ x ∧ x ≤ 18446744073709551615) : 0 ≤ wrap64 (bits .and .u64 (x / 1099511627776) 255) ∧ wrap64 (bits .and .u64 (x / 1099511627776) 255) ≤ 255 := by
  have e := u64_and (x / 1099511627776) 255 (by omega) (by omega) (by omega) (by omega)
  have l : (x / 1099511627776).toNat &&& (255 : Int).toNat ≤ 255 := Nat.and_le_right
  rw [e, IntWalk.wrap64_in _ ⟨by omega, by omega⟩]
  omega
theorem byte_end {e : Value} (x : Int) (h : 0 ≤ x ∧ x ≤ 18446744073709551615) (he : e = .int .i64 (wrap64 (bits .and .u64 (x / 1099511627776) 255)) := by rfl) : ∃ b : Int, 0 ≤ b ∧ b ≤ 255 ∧ Ending.returned e = .returned (.int .i64 b) :=
  ⟨_, (byte_of x h).1, (byte_of x h).2, by rw [he]⟩
set_option maxHeartbeats 1000000 in
theorem next_any (a n c k : Nat) (p : Option Addr) (w : World) (hk : k ≤ 1000000) (hn : n ≤ 65536) (hC : CurAt w a p n c k) (hB : BytesAt w a p n) :
    Calls Try.prog 193 #[.pointer (some ⟨a, 0, none⟩)] w fun e w' => (∃ b : Int, 0 ≤ b ∧ b ≤ 255 ∧ e = .returned (.int .i64 b)) ∧ CurAt w' a p n c (k + 1) ∧ w.grownBy w' (some a) := by
  obtain ⟨s, s0, s1, hb⟩ := hC
  have c0 : w.cell? ⟨a, 0, none⟩ = some (.slice p n c) := by simp [World.cell?, hb]
  have c1 : w.cell? ⟨a, 1, none⟩ = some (.int .i64 k) := by simp [World.cell?, hb]
  have c2 : w.cell? ⟨a, 2, none⟩ = some (.int .u64 s) := by simp [World.cell?, hb]
  have f1 : w.frozen? ⟨a, 1, none⟩ = false := by simp [World.frozen?, hb]
  have f2 : w.frozen? ⟨a, 2, none⟩ = false := by simp [World.frozen?, hb]
  have H := Lib.hid hb
  have BB := Lib.hid hB
  clear hb hB
  by_cases hlt : k < n
  · obtain ⟨b, off, z, rfl, hbl, z0, z1, hc⟩ := BB.out k hlt
    have i0 : (0 : Int) ≤ (k : Int) := by omega
    have i1 : (k : Int) < (n : Int) := by omega
    go_enter Try.func193, Try.ntmps193
    go_wp2
    go_quiet (fail)
    go_wp2
    go_quiet (fail)
    go_wp2
    go_quiet (fail)
    go_wp2
    go_ret
    obtain ⟨h1, h2⟩ := cur_step H.out _ _
    exact ⟨⟨z, z0, z1, rfl⟩, h1, h2⟩
  · have hlt2 : ¬ (k : Int) < (n : Int) := by omega
    go_enter Try.func193, Try.ntmps193
    go_wp2
    go_quiet (fail)
    go_wp2
    go_quiet (fail)
    go_wp2
    go_ret
    obtain ⟨h1, h2⟩ := cur_step H.out _ _
    exact ⟨byte_end _ (wrap_u64_bd _), h1, h2⟩
theorem grown_self (w : World) (r : Option Nat) : w.grownBy w r := ⟨rfl, rfl, rfl, Nat.le_refl _, fun _ _ _ => rfl⟩
theorem grown_then {a b c : World} {r : Option Nat} (h : a.grownBy b r) (k : b.grownBy c r) : a.grownBy c r :=
  ⟨k.os.trans h.os, k.tape.trans h.tape, k.output.trans h.output, Nat.le_trans h.size k.size, fun i hi hne => (k.block i (Nat.lt_of_lt_of_le hi h.size) hne).trans (h.block i hi hne)⟩
theorem BytesAt.turned {w w' : World} {B a n : Nat} {p : Option Addr} (h : BytesAt w B p n) (hB : B ≤ a) (hg : w.grownBy w' (some a)) : BytesAt w' B p n := by
  intro i hi
  obtain ⟨b, off, z, e, hb, z0, z1, hc⟩ := h i hi
  refine ⟨b, off, z, e, hb, z0, z1, ?_⟩
  rw [← hc]
  exact World.cell?_of_block (hg.block b (cell_room' hc) (fun e => by injection e; omega))
/-- What a call that reads the cursor at most d times leaves. -/
def CurPost (w : World) (a : Nat) (p : Option Addr) (n c k d : Nat) (w' : World) : Prop := (∃ k', k' ≤ k + d ∧ CurAt w' a p n c k') ∧ w.grownBy w' (some a)
/-- A number of a range. -/
def InRange (N : Int) (e : Ending) : Prop := ∃ r : Int, 0 ≤ r ∧ r < N ∧ e = .returned (.int .i64 r)
set_option maxHeartbeats 1000000 in
theorem pick_any (a n c k : Nat) (p : Option Addr) (N : Int) (w : World) (hN : 1 ≤ N) (hN2 : N ≤ 4000000) (hk : k ≤ 900000) (hn : n ≤ 65536) (hC : CurAt w a p n c k) (hB : BytesAt w a p n) :
    Calls Try.prog 100 #[.pointer (some ⟨a, 0, none⟩), .int .i64 N] w fun e w' => InRange N e ∧ CurPost w a p n c k 2 w' := by
  by_cases h1 : N ≤ 1
  · have C := Lib.hid hC
    clear hC hB
    go_enter Try.func100, Try.ntmps100
    go_wp2_with fail
    go_ret
    exact ⟨⟨0, by omega, by omega, rfl⟩, ⟨k, by omega, C.out⟩, grown_self _ _⟩
  · have NX := Lib.hid (next_any a n c k p w (by omega) hn hC hB)
    have B := Lib.hid hB
    clear hC hB
    by_cases h2 : N ≤ 200
    · go_enter Try.func100, Try.ntmps100
      go_wp2_with fail
      refine NX.out.mono ?_
      rintro e w1 ⟨⟨b, b0, b1, rfl⟩, hc1, hg1⟩
      have C1 := Lib.hid hc1
      have G1 := Lib.hid hg1
      clear hc1 hg1
      go_wp2_with fail
      go_ret
      exact ⟨⟨b % N, Int.emod_nonneg _ (by omega), Int.emod_lt_of_pos _ (by omega), rfl⟩, ⟨k + 1, by omega, C1.out⟩, G1.out⟩
    · go_enter Try.func100, Try.ntmps100
      go_wp2_with fail
      refine NX.out.mono ?_
      rintro e w1 ⟨⟨b, b0, b1, rfl⟩, hc1, hg1⟩
      have NX2 := Lib.hid (next_any a n c (k + 1) p w1 (by omega) hn hc1 (B.out.turned (Nat.le_refl _) hg1))
      have G1 := Lib.hid hg1
      clear hc1 hg1
      go_wp2_with fail
      refine NX2.out.mono ?_
      rintro e w2 ⟨⟨b', b0', b1', rfl⟩, hc2, hg2⟩
      have C2 := Lib.hid hc2
      have G2 := Lib.hid (grown_then G1.out hg2)
      clear hc2 hg2
      go_wp2_with fail
      go_ret
      exact ⟨⟨(b * 256 + b') % N, Int.emod_nonneg _ (by omega), Int.emod_lt_of_pos _ (by omega), rfl⟩, ⟨k + 2, by omega, C2.out⟩, G2.out⟩
theorem one_any (a n c k : Nat) (p : Option Addr) (N : Int) (w : World) (hN : 1 ≤ N) (hN2 : N ≤ 4000000) (hk : k ≤ 900000) (hn : n ≤ 65536) (hC : CurAt w a p n c k) (hB : BytesAt w a p n) :
    Calls Try.prog 108 #[.pointer (some ⟨a, 0, none⟩), .int .i64 N] w fun e w' => (∃ b : Bool, e = .returned (.bool b)) ∧ CurPost w a p n c k 2 w' := by
  have PK := Lib.hid (pick_any a n c k p N w hN hN2 hk hn hC hB)
  clear hC hB
  go_enter Try.func108, Try.ntmps108
  go_wp2_with fail
  refine PK.out.mono ?_
  rintro e w1 ⟨⟨r, r0, r1, rfl⟩, hp⟩
  have P := Lib.hid hp
  clear hp
  go_wp2_with fail
  all_goals go_ret
  all_goals exact ⟨⟨_, rfl⟩, P.out⟩
theorem new_cell (w : World) (xs : Array Value) (t : TypeId) (i : Nat) (v : Value) (h : xs[i]? = some v) : (w.alloc (.cells xs t)).cell? ⟨w.heap.size, i, none⟩ = some v := by
  have hh : (w.alloc (.cells xs t)).heap[w.heap.size]? = some (.cells xs t (0, 0)) := by
    show (w.heap.push _)[w.heap.size]? = _
    simp
  unfold World.cell?
  simp only [hh]
  exact h
theorem grown_alloc (w : World) (o : Obj) (r : Option Nat) : w.grownBy (w.alloc o) r :=
  ⟨rfl, rfl, rfl, by show w.heap.size ≤ (w.heap.push o).size; simp, fun i hi _ => by show (w.heap.push o)[i]? = w.heap[i]?; rw [Array.getElem?_push, if_neg (by omega)]⟩
theorem CurAt.room {w : World} {a n c k : Nat} {p : Option Addr} (h : CurAt w a p n c k) : a < w.heap.size := by
  obtain ⟨s, _, _, hb⟩ := h
  exact (Array.getElem?_eq_some_iff.1 hb).1
theorem CurAt.alloc {w : World} {a n c k : Nat} {p : Option Addr} (h : CurAt w a p n c k) (o : Obj) : CurAt (w.alloc o) a p n c k := by
  have hr := h.room
  obtain ⟨s, s0, s1, hb⟩ := h
  refine ⟨s, s0, s1, ?_⟩
  show (w.heap.push o)[a]? = _
  rw [Array.getElem?_push, if_neg (by omega)]; exact hb
theorem CurAt.new (w : World) (p : Option Addr) (n c : Nat) : CurAt (w.alloc (.cells #[.slice p n c, .int .i64 0, .int .u64 0] 92)) w.heap.size p n c 0 := by
  refine ⟨0, by omega, by omega, ?_⟩
  show (w.heap.push _)[w.heap.size]? = _
  simp
theorem BytesAt.more {w : World} {B B' n : Nat} {p : Option Addr} (h : BytesAt w B p n) (hB : B ≤ B') : BytesAt w B' p n := by
  intro i hi
  obtain ⟨b, off, z, e, hb, z0, z1, hc⟩ := h i hi
  exact ⟨b, off, z, e, by omega, z0, z1, hc⟩
theorem BytesAt.alloc {w : World} {B n : Nat} {p : Option Addr} (h : BytesAt w B p n) (o : Obj) : BytesAt (w.alloc o) B p n := by
  intro i hi
  obtain ⟨b, off, z, e, hb, z0, z1, hc⟩ := h i hi
  refine ⟨b, off, z, e, hb, z0, z1, ?_⟩
  rw [← hc]
  exact World.cell?_of_block ((grown_alloc w o none).block b (cell_room' hc) (by simp))
theorem below_of_grown {w w' : World} {B : Nat} (h : w.grownBy w' (some B)) (hB : w.heap.size ≤ B) : Below w.heap.size w w' :=
  ⟨h.os, h.tape, h.output, h.size, fun i hi => h.block i hi (fun e => by injection e; omega)⟩
theorem among_any (a n c k : Nat) (p : Option Addr) (g m cap : Nat) (w : World) (hm : 1 ≤ m) (hm2 : m ≤ 1000000) (hk : k ≤ 900000) (hn : n ≤ 65536) (hC : CurAt w a p n c k) (hB : BytesAt w a p n)
    (hga : g ≠ a) (hs : ∀ i : Nat, i < m → ∃ z : Int, w.cell? ⟨g, i, none⟩ = some (.int .i64 z)) :
    Calls Try.prog 101 #[.pointer (some ⟨a, 0, none⟩), .slice (some ⟨g, 0, none⟩) m cap] w fun e w' => (∃ z : Int, e = .returned (.int .i64 z)) ∧ CurPost w a p n c k 2 w' := by
  have PK := Lib.hid (pick_any a n c k p m w (by omega) (by omega) hk hn hC hB)
  have S := Lib.hid hs
  clear hC hB hs
  go_enter Try.func101, Try.ntmps101
  go_wp2_with fail
  refine PK.out.mono ?_
  rintro e w1 ⟨⟨r, r0, r1, rfl⟩, hp⟩
  obtain ⟨z, hc⟩ := S.out r.toNat (by omega)
  have hc1 : w1.cell? ⟨g, r.toNat, none⟩ = some (.int .i64 z) := by
    rw [← hc]
    exact World.cell?_of_block (hp.2.block g (cell_room' hc) (fun e => by injection e; omega))
  have P := Lib.hid hp
  clear hp hc
  go_wp2_with fail
  go_ret
  exact ⟨⟨z, rfl⟩, P.out⟩
end Go.Proofs.Ytnpiciabpgkiiad

namespace Go.Proofs.Ytnpiciabpgkiiad
open Go.RowKit
set_option linter.unusedVariables false
theorem new_cell' {w : World} {B : Nat} {xs : Array Value} {t : TypeId} {i : Nat} {v : Value} (hb : B = w.heap.size) (h : xs[i]? = some v) : (w.alloc (.cells xs t)).cell? ⟨B, i, none⟩ = some v := by
  subst hb; exact new_cell _ _ _ _ _ h
theorem among_P (a n c k : Nat) (p : Option Addr) (g m cap : Nat) (w : World) (P : Int → Prop) (hm : 1 ≤ m) (hm2 : m ≤ 1000000) (hk : k ≤ 900000) (hn : n ≤ 65536) (hC : CurAt w a p n c k) (hB : BytesAt w a p n)
    (hga : g ≠ a) (hs : ∀ i : Nat, i < m → ∃ z : Int, P z ∧ w.cell? ⟨g, i, none⟩ = some (.int .i64 z)) :
    Calls Try.prog 101 #[.pointer (some ⟨a, 0, none⟩), .slice (some ⟨g, 0, none⟩) m cap] w fun e w' => (∃ z : Int, P z ∧ e = .returned (.int .i64 z)) ∧ CurPost w a p n c k 2 w' := by
  have PK := Lib.hid (pick_any a n c k p m w (by omega) (by omega) hk hn hC hB)
  have S := Lib.hid hs
  clear hC hB hs
  go_enter Try.func101, Try.ntmps101
  go_wp2_with fail
  refine PK.out.mono ?_
  rintro e w1 ⟨⟨r, r0, r1, rfl⟩, hp⟩
  obtain ⟨z, hz, hc⟩ := S.out r.toNat (by omega)
  have hc1 : w1.cell? ⟨g, r.toNat, none⟩ = some (.int .i64 z) := by
    rw [← hc]
    exact World.cell?_of_block (hp.2.block g (cell_room' hc) (fun e => by injection e; omega))
  have Q := Lib.hid hp
  have HZ := Lib.hid hz
  clear hp hc hz
  go_wp2_with fail
  go_ret
  exact ⟨⟨z, HZ.out, rfl⟩, Q.out⟩
theorem CurAt.kept {w w' : World} {a n c k : Nat} {p : Option Addr} {r : Option Nat} (h : CurAt w a p n c k) (hg : w.grownBy w' r) (hr : some a ≠ r) : CurAt w' a p n c k := by
  have hl := h.room
  obtain ⟨s, s0, s1, hh⟩ := h
  exact ⟨s, s0, s1, (hg.block a hl hr).trans hh⟩
theorem grown_own {w b d : World} {a : Nat} {r : Option Nat} (h : w.grownBy b (some a)) (hg : b.grownBy d r) (hr : ∀ q, r = some q → w.heap.size ≤ q) : w.grownBy d (some a) :=
  ⟨hg.os.trans h.os, hg.tape.trans h.tape, hg.output.trans h.output, Nat.le_trans h.size hg.size, fun i hi hne => (hg.block i (Nat.lt_of_lt_of_le hi h.size) (fun e => by have := hr i e.symm; omega)).trans (h.block i hi hne)⟩
set_option maxRecDepth 100000 in
set_option maxHeartbeats 2000000 in
theorem people_any (a n c k : Nat) (p : Option Addr) (w : World) (hk : k ≤ 800000) (hn : n ≤ 65536) (hC : CurAt w a p n c k) (hB : BytesAt w a p n) :
    Calls Try.prog 131 #[.pointer (some ⟨a, 0, none⟩)] w fun e w' => (∃ z : Int, (-1 ≤ z ∧ z ≤ 11) ∧ e = .returned (.int .i64 z)) ∧ CurPost w a p n c k 4 w' := by
  have hr := hC.room
  obtain ⟨wa, hwa⟩ : ∃ wa, wa = w.alloc (.cells #[.int .i64 3, .int .i64 4, .int .i64 5, .int .i64 2, .int .i64 1, .int .i64 7, .int .i64 10, .int .i64 0, .int .i64 11, .int .i64 (-1)] 3) := ⟨_, rfl⟩
  have C1 : CurAt wa a p n c k := by rw [hwa]; exact hC.alloc _
  have B1 : BytesAt wa a p n := by rw [hwa]; exact hB.alloc _
  have L1 : ∀ i : Nat, i < 10 → ∃ z : Int, (-1 ≤ z ∧ z ≤ 11) ∧ wa.cell? ⟨w.heap.size, i, none⟩ = some (.int .i64 z) := by
    intro i hi
    rw [hwa]
    have : i = 0 ∨ i = 1 ∨ i = 2 ∨ i = 3 ∨ i = 4 ∨ i = 5 ∨ i = 6 ∨ i = 7 ∨ i = 8 ∨ i = 9 := by omega
    rcases this with rfl | rfl | rfl | rfl | rfl | rfl | rfl | rfl | rfl | rfl <;> exact ⟨_, ⟨by omega, by omega⟩, new_cell' rfl rfl⟩
  have G1 : w.grownBy wa (some a) := by rw [hwa]; exact grown_alloc w _ _
  have PK := Lib.hid (pick_any a n c k p 24 wa (by omega) (by omega) (by omega) hn C1 B1)
  have S1 : wa.heap.size = w.heap.size + 1 := by rw [hwa]; simp
  clear C1
  go_enter Try.func131, Try.ntmps131
  go_wp2_with fail
  rw [← hwa]
  clear hwa
  refine PK.out.mono ?_
  rintro e w1 ⟨⟨r, r0, r1, rfl⟩, ⟨k1, hk1, hC1⟩, hg1⟩
  have B2 := B1.turned (Nat.le_refl _) hg1
  have L2 : ∀ i : Nat, i < 10 → ∃ z : Int, (-1 ≤ z ∧ z ≤ 11) ∧ w1.cell? ⟨w.heap.size, i, none⟩ = some (.int .i64 z) := fun i hi => by
    obtain ⟨z, hz, hc⟩ := L1 i hi
    exact ⟨z, hz, (World.cell?_of_block (hg1.block w.heap.size (by omega) (fun e => by injection e; omega))).trans hc⟩
  have HL := Lib.hid L2
  have HC1 := Lib.hid hC1
  have HB2 := Lib.hid B2
  have HG := Lib.hid (grown_then G1 hg1)
  have rd : r.tdiv 8 = r / 8 := by rw [Int.tdiv_eq_ediv_of_nonneg r0]
  obtain ⟨m, hm⟩ : ∃ m : Nat, (m : Int) = 7 + r / 8 := ⟨(7 + r / 8).toNat, by omega⟩
  have hm1 : m ≤ 9 := by omega
  have hm2 : 7 ≤ m := by omega
  clear L1 L2 B1 B2 hg1 hC1 G1 hC hB
  go_wp2_with fail
  refine (among_P a n c k1 p w.heap.size (7 + r / 8).toNat 10 w1 (fun z => -1 ≤ z ∧ z ≤ 11) (by omega) (by omega) (by omega) hn HC1.out HB2.out (by omega) (fun i hi => HL.out i (by omega))).mono ?_
  rintro e w2 ⟨⟨z, hz, rfl⟩, ⟨k2, hk2, hC2⟩, hg2⟩
  have HZ := Lib.hid hz
  have FIN := Lib.hid (show CurPost w a p n c k 4 w2 from ⟨⟨k2, by omega, hC2⟩, grown_then HG.out hg2⟩)
  clear hz hC2 hg2
  go_wp2_with fail
  go_ret
  exact ⟨⟨z, HZ.out, rfl⟩, FIN.out⟩
set_option maxRecDepth 100000 in
set_option maxHeartbeats 2000000 in
theorem drawSec (n c : Nat) (p : Option Addr) (w : World) (hn : n ≤ 65536) (hB : BytesAt w w.heap.size p n) :
    Calls Try.prog 42 #[.slice p n c] w fun e w' => (∃ x y : Int, (-1 ≤ x ∧ x ≤ 11) ∧ (-1 ≤ y ∧ y ≤ 11) ∧ e = .returned (.tuple #[.int .i64 x, .int .i64 y])) ∧ Below w.heap.size w w' := by
  obtain ⟨wa, hwa⟩ : ∃ wa, wa = w.alloc (.cells #[.slice p n c, .int .i64 0, .int .u64 0] 92) := ⟨_, rfl⟩
  have C1 : CurAt wa w.heap.size p n c 0 := by rw [hwa]; exact CurAt.new w p n c
  have B1 : BytesAt wa w.heap.size p n := by rw [hwa]; exact hB.alloc _
  have G1 : w.grownBy wa (some w.heap.size) := by rw [hwa]; exact grown_alloc w _ _
  have PP := Lib.hid (people_any w.heap.size n c 0 p wa (by omega) hn C1 B1)
  clear C1
  go_enter Try.func42, Try.ntmps42
  go_wp2_with fail
  rw [← hwa]
  clear hwa
  refine PP.out.mono ?_
  rintro e w1 ⟨⟨x, ⟨x0, x1⟩, rfl⟩, ⟨k1, hk1, hC1⟩, hg1⟩
  have B2 := B1.turned (Nat.le_refl _) hg1
  have G2 := grown_then G1 hg1
  have OO := Lib.hid (one_any w.heap.size n c k1 p 16 w1 (by omega) (by omega) (by omega) hn hC1 B2)
  clear PP B1 G1 hg1 hC1 hB
  go_wp2_with fail
  refine OO.out.mono ?_
  rintro e w2 ⟨⟨b, rfl⟩, ⟨k2, hk2, hC2⟩, hg2⟩
  have B3 := B2.turned (Nat.le_refl _) hg2
  have G3 := Lib.hid (grown_then G2 hg2)
  have HX := Lib.hid (And.intro x0 x1)
  have hr := hC2.room
  clear OO B2 G2 hg2
  cases b
  · have MS := Lib.hid (fun w => mostS 1 x w)
    have PK := Lib.hid (pick_any w.heap.size n c k2 p (max 1 x) w2 (by omega) (by omega) (by omega) hn hC2 B3)
    clear hC2 B3
    have mb : 1 ≤ max 1 x ∧ max 1 x ≤ 11 := by omega
    generalize max 1 x = M at *
    go_wp2_with fail
    refine (MS.out _).mono ?_
    rintro e w3 ⟨rfl, rfl⟩
    go_wp2_with fail
    refine PK.out.mono ?_
    rintro e w4 ⟨⟨r, r0, r1, rfl⟩, ⟨k4, hk4, hC4⟩, hg4⟩
    have FIN := Lib.hid (below_of_grown (grown_then G3.out hg4) (Nat.le_refl _))
    clear hC4 hg4
    go_wp2_with fail
    go_ret2
    exact ⟨⟨x, r, HX.out, ⟨by omega, by omega⟩, rfl⟩, FIN.out⟩
  · obtain ⟨wb, hwb⟩ : ∃ wb, wb = w2.alloc (.cells #[.int .i64 (-1), .int .i64 x, .int .i64 0] 3) := ⟨_, rfl⟩
    have C4 : CurAt wb w.heap.size p n c k2 := by rw [hwb]; exact hC2.alloc _
    have B4 : BytesAt wb w.heap.size p n := by rw [hwb]; exact B3.alloc _
    have G4 := Lib.hid (show w.grownBy wb (some w.heap.size) by rw [hwb]; exact grown_then G3.out (grown_alloc w2 _ _))
    have AM := Lib.hid (among_P w.heap.size n c k2 p w2.heap.size 3 3 wb (fun z => -1 ≤ z ∧ z ≤ 11) (by omega) (by omega) (by omega) hn C4 B4 (by omega) (fun i hi => by
      rw [hwb]
      have : i = 0 ∨ i = 1 ∨ i = 2 := by omega
      rcases this with rfl | rfl | rfl
      · exact ⟨_, ⟨by omega, by omega⟩, new_cell' rfl rfl⟩
      · exact ⟨x, HX.out, new_cell' rfl rfl⟩
      · exact ⟨_, ⟨by omega, by omega⟩, new_cell' rfl rfl⟩))
    clear C4 B4 hC2 B3 G3
    go_wp2_with fail
    rw [← hwb]
    clear hwb
    refine AM.out.mono ?_
    rintro e w4 ⟨⟨r, hr4, rfl⟩, ⟨k4, hk4, hC4⟩, hg4⟩
    have FIN := Lib.hid (below_of_grown (grown_then G4.out hg4) (Nat.le_refl _))
    have HR := Lib.hid hr4
    clear hC4 hg4 hr4
    go_wp2_with fail
    go_ret2
    exact ⟨⟨x, r, HX.out, HR.out, rfl⟩, FIN.out⟩
set_option maxRecDepth 100000 in
set_option maxHeartbeats 2000000 in
theorem drawWins (n c : Nat) (p : Option Addr) (w : World) (hn : n ≤ 65536) (hB : BytesAt w w.heap.size p n) :
    Calls Try.prog 51 #[.slice p n c] w fun e w' => (∃ x y : Int, (-1 ≤ x ∧ x ≤ 11) ∧ (-1 ≤ y ∧ y ≤ 11) ∧ e = .returned (.tuple #[.int .i64 x, .int .i64 y])) ∧ Below w.heap.size w w' := by
  obtain ⟨wa, hwa⟩ : ∃ wa, wa = w.alloc (.cells #[.slice p n c, .int .i64 0, .int .u64 0] 92) := ⟨_, rfl⟩
  have C1 : CurAt wa w.heap.size p n c 0 := by rw [hwa]; exact CurAt.new w p n c
  have B1 : BytesAt wa w.heap.size p n := by rw [hwa]; exact hB.alloc _
  have G1 : w.grownBy wa (some w.heap.size) := by rw [hwa]; exact grown_alloc w _ _
  have S1 : wa.heap.size = w.heap.size + 1 := by rw [hwa]; simp
  obtain ⟨wb, hwb⟩ : ∃ wb, wb = wa.alloc (.cells #[.int .i64 3, .int .i64 4, .int .i64 5, .int .i64 2, .int .i64 1, .int .i64 6, .int .i64 8, .int .i64 0] 3) := ⟨_, rfl⟩
  have C2 : CurAt wb w.heap.size p n c 0 := by rw [hwb]; exact C1.alloc _
  have B2 : BytesAt wb w.heap.size p n := by rw [hwb]; exact B1.alloc _
  have G2 : w.grownBy wb (some w.heap.size) := by rw [hwb]; exact grown_then G1 (grown_alloc wa _ _)
  have L2 : ∀ i : Nat, i < 8 → ∃ z : Int, (-1 ≤ z ∧ z ≤ 11) ∧ wb.cell? ⟨w.heap.size + 1, i, none⟩ = some (.int .i64 z) := by
    intro i hi
    rw [hwb]
    have : i = 0 ∨ i = 1 ∨ i = 2 ∨ i = 3 ∨ i = 4 ∨ i = 5 ∨ i = 6 ∨ i = 7 := by omega
    rcases this with rfl | rfl | rfl | rfl | rfl | rfl | rfl | rfl <;> exact ⟨_, ⟨by omega, by omega⟩, new_cell' S1.symm rfl⟩
  have S2 : wb.heap.size = w.heap.size + 1 + 1 := by rw [hwb]; simp; omega
  have PK := Lib.hid (pick_any w.heap.size n c 0 p 24 wb (by omega) (by omega) (by omega) hn C2 B2)
  clear C1 B1 G1 C2
  go_enter Try.func51, Try.ntmps51
  go_upto_region 2 with fail
  rw [← hwa]
  clear hwa
  go_wp2_with fail
  rw [← hwb]
  clear hwb
  refine PK.out.mono ?_
  rintro e w1 ⟨⟨r, r0, r1, rfl⟩, ⟨k1, hk1, hC1⟩, hg1⟩
  have B3 := B2.turned (Nat.le_refl _) hg1
  have G3 := grown_then G2 hg1
  have L3 : ∀ i : Nat, i < 8 → ∃ z : Int, (-1 ≤ z ∧ z ≤ 11) ∧ w1.cell? ⟨w.heap.size + 1, i, none⟩ = some (.int .i64 z) := fun i hi => by
    obtain ⟨z, hz, hc⟩ := L2 i hi
    exact ⟨z, hz, (World.cell?_of_block (hg1.block (w.heap.size + 1) (by omega) (fun e => by injection e; omega))).trans hc⟩
  have rd : r.tdiv 11 = r / 11 := by rw [Int.tdiv_eq_ediv_of_nonneg r0]
  have q0 : 0 ≤ r / 11 ∧ r / 11 ≤ 2 := by omega
  have AM := Lib.hid (among_P w.heap.size n c k1 p (w.heap.size + 1) (6 + r / 11).toNat 8 w1 (fun z => -1 ≤ z ∧ z ≤ 11) (by omega) (by omega) (by omega) hn hC1 B3 (by omega) (fun i hi => L3 i (by omega)))
  clear L2 L3 B2 G2 hg1 hC1 hB PK
  go_wp2_with fail
  refine AM.out.mono ?_
  rintro e w2 ⟨⟨x, hx, rfl⟩, ⟨k2, hk2, hC2⟩, hg2⟩
  have B4 := B3.turned (Nat.le_refl _) hg2
  have G4 := grown_then G3 hg2
  have MS := Lib.hid (fun w => mostS 1 x w)
  have HX := Lib.hid hx
  have PK := Lib.hid (pick_any w.heap.size n c k2 p (max 1 x) w2 (by omega) (by omega) (by omega) hn hC2 B4)
  have mb : 1 ≤ max 1 x ∧ max 1 x ≤ 11 := by omega
  generalize max 1 x = M at *
  clear hC2 hg2 AM B3 G3 rd q0
  go_wp2_with fail
  refine (MS.out _).mono ?_
  rintro e w3 ⟨rfl, rfl⟩
  go_wp2_with fail
  refine PK.out.mono ?_
  rintro e w4 ⟨⟨y, y0, y1, rfl⟩, ⟨k4, hk4, hC4⟩, hg4⟩
  have B5 := B4.turned (Nat.le_refl _) hg4
  have G5 := grown_then G4 hg4
  have PK2 := Lib.hid (pick_any w.heap.size n c k4 p 24 w4 (by omega) (by omega) (by omega) hn hC4 B5)
  clear hC4 hg4 B4 G4
  go_wp2_with fail
  refine PK2.out.mono ?_
  rintro e w5 ⟨⟨s, s0, s1, rfl⟩, ⟨k5, hk5, hC5⟩, hg5⟩
  have FIN := Lib.hid (below_of_grown (grown_then G5 hg5) (Nat.le_refl _))
  have sd : s.tdiv 23 = s / 23 := by rw [Int.tdiv_eq_ediv_of_nonneg s0]
  have q5 : 0 ≤ s / 23 ∧ s / 23 ≤ 1 := by omega
  clear hC5 hg5 G5 B5
  go_wp2_with fail
  go_ret2
  exact ⟨⟨x, y - s / 23, HX.out, ⟨by omega, by omega⟩, rfl⟩, FIN.out⟩
end Go.Proofs.Ytnpiciabpgkiiad
namespace Go.Proofs.Ytnpiciabpgkiiad
open Go.RowKit
set_option linter.unusedVariables false
theorem part_int (xs : Array Value) (k : Nat) (v : Value) (w : World) (h : xs[k]? = some v) : (part 3 xs k).run Try.prog w = .ok v w :=
  run_part_plain w (by kernel_rfl) h
theorem eqInt_same (d : Nat) (a : Int) (w : World) : (Op.equalIn (d + 1) 3 (.int .i64 a) (.int .i64 a)).run Try.prog w = .ok true w := by
  rw [run_equalIn_int (w := w) d 3 .i64 .i64 a a Try.underlying3]; simp
theorem eq_pairD (d : Nat) (p q : Int) (w : World) : (Op.equalIn (d + 1 + 1) 39 (.agg #[.int .i64 p, .int .i64 q]) (.agg #[.int .i64 p, .int .i64 q])).run Try.prog w = .ok true w := by
  obtain ⟨i, hi⟩ := info_of_underlying Try.underlying3
  rw [run_equalIn_array w (d + 1) (e := 3) (n := 2) _ _ Try.underlying39 hi]
  have hc : Try.prog.cellsOf 3 = 1 := by kernel_rfl
  rw [hc, show List.range 2 = [0, 1] from rfl]
  simp only [Op.eqItems, Sem.run_bind, Nat.zero_mul, Nat.one_mul]
  rw [part_int _ 0 (.int .i64 p) w rfl]
  simp only [Result.andThen_ok]
  rw [part_int _ 0 (.int .i64 p) w rfl]
  simp only [Result.andThen_ok]
  rw [eqInt_same d p w]
  simp only [Result.andThen_ok, Bool.not_true, Bool.false_eq_true, if_false, Sem.run_bind]
  rw [part_int _ 1 (.int .i64 q) w rfl]
  simp only [Result.andThen_ok]
  rw [part_int _ 1 (.int .i64 q) w rfl]
  simp only [Result.andThen_ok]
  rw [eqInt_same d q w]
  simp only [Result.andThen_ok, Bool.not_true, Bool.false_eq_true, if_false]
  rfl
theorem eq_pair (p q : Int) (w : World) : (Op.equalIn 10000 39 (.agg #[.int .i64 p, .int .i64 q]) (.agg #[.int .i64 p, .int .i64 q])).run Try.prog w = .ok true w := eq_pairD 9998 p q w
end Go.Proofs.Ytnpiciabpgkiiad
namespace Go.Proofs.Ytnpiciabpgkiiad
open Go.RowKit
set_option linter.unusedVariables false
theorem BW_next {W Wc w1 : World} (b1 : Below Wc.heap.size Wc w1) (hA : Below W.heap.size W Wc) : Below W.heap.size W w1 := hA.trans (b1.mono hA.size)
theorem below_al {W w1 : World} (h : Below W.heap.size W w1) (o : Obj) : Below W.heap.size W (w1.alloc o) := h.alloc h.size o
theorem below_st {W w1 : World} {b o : Nat} (h : Below W.heap.size W w1) (hp : W.heap.size ≤ b) (v : Value) : Below W.heap.size W (w1.setCell ⟨b, o, none⟩ v) := h.setCell (p := ⟨b, o, none⟩) hp v
theorem S_of {w W : World} {n d m e : Int} (K : ∀ w1, Below W.heap.size W w1 → Cells3 w w1 n d m e) {w' : World} (h : Below W.heap.size W w') :
    w'.cell? ⟨w.heap.size, 0, none⟩ = some (.int .i64 n) ∧ w'.cell? ⟨w.heap.size, 1, none⟩ = some (.int .i64 d) ∧ w'.cell? ⟨w.heap.size + 1, 0, none⟩ = some (.int .i64 m) ∧ w'.cell? ⟨w.heap.size + 1, 1, none⟩ = some (.int .i64 e) ∧ w'.cell? ⟨w.heap.size + 1 + 1, 0, none⟩ = some (.int .i64 0) ∧ w'.cell? ⟨w.heap.size + 1 + 1, 1, none⟩ = some (.int .i64 0) ∧ w'.frozen? ⟨w.heap.size + 1 + 1, 0, none⟩ = false ∧ w'.frozen? ⟨w.heap.size + 1 + 1, 1, none⟩ = false :=
  ⟨(K _ h).a0, (K _ h).a1, (K _ h).b0, (K _ h).b1, (K _ h).c0, (K _ h).c1, (K _ h).f0, (K _ h).f1⟩
set_option maxHeartbeats 2000000 in
theorem timesS (n d m e : Int) (w : World) (hn : -1000000000 ≤ n ∧ n ≤ 1000000000) (hd : 1 ≤ d ∧ d ≤ 1000000) (hm : -1000000000 ≤ m ∧ m ≤ 1000000000) (he : 1 ≤ e ∧ e ≤ 1000000) (g1 : gI n d = 1) (g2 : gI m e = 1) :
    Calls Try.prog 141 #[.agg #[.int .i64 n, .int .i64 d], .agg #[.int .i64 m, .int .i64 e]] w (Gives (.agg #[.int .i64 (cutN (n * m) (d * e)), .int .i64 (cutD (n * m) (d * e))]) w) := by
  have hs := times_same (n := n) (m := m) (d := d) (e := e) (by omega) (by omega) g1 g2
  have C1 : Hid (∀ w, Calls Try.prog 125 #[.int .i64 n, .int .i64 e] w fun e' w' => e' = .returned (.agg #[.int .i64 (cutN n e), .int .i64 (cutD n e)]) ∧ ∃ k, w' = (w.alloc (.cells #[.int .i64 (cutN n e), .int .i64 (cutD n e)] 39)).drewN k) := Lib.hid (fun w => cutS_exact n e w (by omega) (by omega))
  have C2 : Hid (∀ w, Calls Try.prog 125 #[.int .i64 m, .int .i64 d] w fun e' w' => e' = .returned (.agg #[.int .i64 (cutN m d), .int .i64 (cutD m d)]) ∧ ∃ k, w' = (w.alloc (.cells #[.int .i64 (cutN m d), .int .i64 (cutD m d)] 39)).drewN k) := Lib.hid (fun w => cutS_exact m d w (by omega) (by omega))
  have b1 := abs_cutN (a := n) (b := e) 1000000000 (by omega) (by omega)
  have b2 := abs_cutN (a := m) (b := d) 1000000000 (by omega) (by omega)
  have b3 := cutD_le (a := n) (b := e) (by omega)
  have b4 := cutD_le (a := m) (b := d) (by omega)
  have b5 := cutD_pos (a := n) (b := e) (by omega)
  have b6 := cutD_pos (a := m) (b := d) (by omega)
  rw [hs.1, hs.2]
  clear hs g1 g2
  generalize cutN n e = p1 at *
  generalize cutN m d = p2 at *
  generalize cutD n e = s1 at *
  generalize cutD m d = s2 at *
  have q1 := mul_bd (x := p1) (y := p2) 1000000000 1000000000 (by omega) (by omega)
  have q2 := mul_bd (x := s1) (y := s2) 1000000 1000000 (by omega) (by omega)
  obtain ⟨q1a, q1b⟩ : -1000000000000000000 ≤ p1 * p2 ∧ p1 * p2 ≤ 1000000000000000000 := by omega
  obtain ⟨q2a, q2b⟩ : -1000000000000 ≤ s1 * s2 ∧ s1 * s2 ≤ 1000000000000 := by omega
  clear q1 q2 hn hd hm he b1 b2 b3 b4 b5 b6
  have B := Lib.hid (blocks3_below w n d m e)
  have hsz := blocks3_size w n d m e
  obtain ⟨W, hW⟩ : ∃ W, W = Blocks3 w n d m e := ⟨_, rfl⟩
  have K : Hid (∀ w1, Below W.heap.size W w1 → Cells3 w w1 n d m e) := Lib.hid (by rw [hW]; exact fun w1 h => cells3 h)
  have hsz' : W.heap.size = w.heap.size + 3 := by rw [hW]; exact hsz
  have BW : Hid (Below w.heap.size w W) := by rw [hW]; exact B
  obtain ⟨a0, a1, z0, z1, _, _, _, _⟩ := K.out W (Below.refl _ _)
  clear hsz B
  go_enter Try.func141, Try.ntmps141
  go_wp2_with fail
  change Code.wp _ _ _ _ (Blocks3 w n d m e)
  rw [← hW]
  clear hW
  have N1 := World.new_ne W _ a0
  have N2 := World.new_ne W _ a1
  have N3 := World.new_ne W _ z0
  have N4 := World.new_ne W _ z1
  go_region_held3 (fun w' => w'.cell? ⟨w.heap.size, 0, none⟩ = some (.int .i64 n) ∧ w'.cell? ⟨w.heap.size, 1, none⟩ = some (.int .i64 d) ∧ w'.cell? ⟨w.heap.size + 1, 0, none⟩ = some (.int .i64 m) ∧ w'.cell? ⟨w.heap.size + 1, 1, none⟩ = some (.int .i64 e) ∧ w'.cell? ⟨w.heap.size + 1 + 1, 0, none⟩ = some (.int .i64 0) ∧ w'.cell? ⟨w.heap.size + 1 + 1, 1, none⟩ = some (.int .i64 0) ∧ w'.frozen? ⟨w.heap.size + 1 + 1, 0, none⟩ = false ∧ w'.frozen? ⟨w.heap.size + 1 + 1, 1, none⟩ = false)
    ((refine S_of K.out ?_; (repeat' (first | with_reducible refine below_al ?_ _ | with_reducible refine below_st ?_ ?_ _ | with_reducible refine below_drewN ?_ _ | with_reducible refine below_drew ?_ | with_reducible exact Below.refl _ _)); all_goals (first | omega | (simp; omega) | simp)))
    (first | (go_at_call 125; (first | (with_reducible refine (C1.out _).mono ?_) | (with_reducible refine (C2.out _).mono ?_)); rintro e w1 ⟨rfl, k, rfl⟩))
  clear a0 a1 z0 z1 N1 N2 N3 N4 C1 C2
  all_goals
    rename_i hS
    obtain ⟨_, _, _, _, c0, c1, f0, f1⟩ := hS
    go_wp2_with fail
    refine bodyPost_ret (v := .agg #[.int .i64 (p1 * p2), .int .i64 (s1 * s2)]) (by simp [results, Try.results141, go_sem, *]) rfl ⟨rfl, ?_⟩
    repeat' (first | with_reducible exact BW.out | with_reducible refine below_al ?_ _ | with_reducible refine below_st ?_ ?_ _ | with_reducible refine below_drewN ?_ _ | with_reducible refine below_drew ?_)
    all_goals (first | omega | (simp; omega) | simp)
end Go.Proofs.Ytnpiciabpgkiiad
namespace Go.Proofs.Ytnpiciabpgkiiad
open Go.RowKit
set_option linter.unusedVariables false
/-- The cells of the first k pairs. -/
def prL (A B : Nat → Int) : Nat → List Int
  | 0 => []
  | k + 1 => prL A B k ++ [A k, B k]
theorem prL_len (A B : Nat → Int) (k : Nat) : (prL A B k).length = k * 2 := by
  induction k with
  | zero => rfl
  | succ k ih => rw [prL, List.length_append, ih]; simp; omega
theorem prL_at (A B : Nat → Int) {k j : Nat} (h : j < k) : (prL A B k).getD (j * 2) 0 = A j ∧ (prL A B k).getD (j * 2 + 1) 0 = B j := by
  induction k with
  | zero => omega
  | succ k ih =>
    have hl := prL_len A B k
    rw [prL]
    rcases Nat.lt_or_ge j k with h' | h'
    · rw [getD_app_left (by omega), getD_app_left (by omega)]; exact ih h'
    · obtain rfl : j = k := by omega
      rw [List.getD_eq_getElem?_getD, List.getD_eq_getElem?_getD, List.getElem?_append_right (by omega), List.getElem?_append_right (by omega), hl, Nat.sub_self, show j * 2 + 1 - j * 2 = 1 by omega]
      exact ⟨rfl, rfl⟩
theorem prL_mem {A B : Nat → Int} {P : Int → Prop} : ∀ k, (∀ j, j < k → P (A j) ∧ P (B j)) → ∀ z ∈ prL A B k, P z := by
  intro k
  induction k with
  | zero => intro _ z hz; cases hz
  | succ k ih =>
    intro h z hz
    rw [prL] at hz
    rcases List.mem_append.1 hz with h' | h'
    · exact ih (fun j hj => h j (by omega)) z h'
    · have := h k (by omega)
      simp at h'
      rcases h' with rfl | rfl
      · exact this.1
      · exact this.2
/-- The row while its elements are set. -/
def halfQ (A B : Nat → Int) (n k : Nat) : List Int := prL A B k ++ List.replicate ((n - k) * 2) 0
theorem halfQ_len (A B : Nat → Int) {n k : Nat} (h : k ≤ n) : (halfQ A B n k).length = n * 2 := by
  unfold halfQ; rw [List.length_append, prL_len, List.length_replicate]; omega
theorem halfQ_zero (A B : Nat → Int) (n : Nat) : halfQ A B n 0 = List.replicate (n * 2) 0 := by simp [halfQ, prL]
theorem halfQ_all (A B : Nat → Int) {n k : Nat} (h : n ≤ k) : halfQ A B n k = prL A B k := by
  unfold halfQ; rw [show (n - k) * 2 = 0 by omega]; simp
theorem halfQ_set (A B : Nat → Int) {n k : Nat} (h : k < n) : ((halfQ A B n k).set (k * 2) (A k)).set (k * 2 + 1) (B k) = halfQ A B n (k + 1) := by
  unfold halfQ
  have hl := prL_len A B k
  obtain ⟨m, hm⟩ : ∃ m, (n - k) * 2 = m + 2 := ⟨(n - k) * 2 - 2, by omega⟩
  rw [List.set_append_right _ _ (by omega), hl, Nat.sub_self, hm, show (n - (k + 1)) * 2 = m by omega, List.set_append_right _ _ (by omega), hl, show k * 2 + 1 - k * 2 = 1 by omega, prL, List.append_assoc]
  rfl
theorem toList_madeCells_two (z : Value) (n : Nat) : (madeCells #[z, z] (n * 2)).toList = List.replicate (n * 2) z := by
  apply List.ext_getElem?
  intro j
  by_cases hj : j < n * 2
  · have : j % 2 = 0 ∨ j % 2 = 1 := by omega
    rcases this with h | h <;> simp [madeCells, hj, h]
  · simp [madeCells, hj]
theorem pairInfo : (Try.prog.info? 39).map (fun i => (i.zero, i.size, i.bytes)) = some (some (.agg #[.int .i64 0, .int .i64 0]), 2, 16) := by kernel_rfl
theorem OwnQ.made {w1 : World} {lo g n : Nat} (h : w1.ownsRow lo 39 2 (.slice (some ⟨g, 0, none⟩) n n) n (madeCells (Value.agg #[.int .i64 0, .int .i64 0]).cells (n * 2)).toList) : OwnQ w1 lo w1.heap.size (.slice (some ⟨g, 0, none⟩) n n) n (List.replicate (n * 2) 0) := by
  rw [show (Value.agg #[Value.int .i64 0, Value.int .i64 0]).cells = #[Value.int .i64 0, Value.int .i64 0] from rfl, toList_madeCells_two] at h
  refine ⟨by simp, by rw [List.map_replicate]; exact h, fun q hq => (h.lt q hq).2, Nat.le_refl _, fun z hz => ?_⟩
  rw [List.eq_of_mem_replicate hz]; unfold InI64; omega
theorem OwnQ.set2 {w : World} {lo hi g cap n : Nat} {fs : List Int} (h : OwnQ w lo hi (.slice (some ⟨g, 0, none⟩) n cap) n fs) (j : Nat) {x y : Int} (hx : InI64 x) (hy : InI64 y) :
    OwnQ ((w.setCell ⟨g, j * 2, none⟩ (.int .i64 x)).setCell ⟨g, j * 2 + 1, none⟩ (.int .i64 y)) lo hi (.slice (some ⟨g, 0, none⟩) n cap) n ((fs.set (j * 2) x).set (j * 2 + 1) y) := by
  have h1 := h.row.stored (j * 2) (.int .i64 x)
  have h2 := h1.1.stored (j * 2 + 1) (.int .i64 y)
  refine ⟨by rw [List.length_set, List.length_set]; exact h.len, by rw [List.map_set, List.map_set]; exact h2.1, h.lt, Nat.le_trans h.room (Nat.le_trans h1.2.size h2.2.size), fun z hz => ?_⟩
  rcases List.mem_or_eq_of_mem_set hz with hz | rfl
  · rcases List.mem_or_eq_of_mem_set hz with hz | rfl
    · exact h.in64 z hz
    · exact hx
  · exact hy
theorem OwnQ.empty (w1 : World) (lo : Nat) (h : lo ≤ w1.heap.size) : OwnQ (w1.alloc (.cells #[] 39)) lo (w1.alloc (.cells #[] 39)).heap.size (.slice (some ⟨w1.heap.size, 0, none⟩) 0 0) 0 [] := by
  refine ⟨rfl, ⟨rfl, .inr ⟨w1.heap.size, 0, #[], rfl, h, alloc_heap w1 _, Nat.le_refl _, Nat.zero_le _, rfl, rfl⟩⟩, ?_, Nat.le_refl _, fun z hz => by cases hz⟩
  intro q hq
  simp [Value.ownBlock] at hq
  subst hq
  simp
theorem OwnQ.app {wr w3 : World} {lo n : Nat} {o v' : Value} {fs : List Int} {x y : Int} (h : OwnQ wr lo wr.heap.size o n fs) (hx : InI64 x) (hy : InI64 y)
    (hown : w3.ownsRow lo 39 2 v' (n + 1) (fs.map (.int .i64) ++ [.int .i64 x, .int .i64 y])) : OwnQ w3 lo w3.heap.size v' (n + 1) (fs ++ [x, y]) := by
  refine ⟨by have := h.len; simp; omega, by rw [List.map_append]; exact hown, fun q hq => (hown.lt q hq).2, Nat.le_refl _, fun z hz => ?_⟩
  rcases List.mem_append.1 hz with hz | hz
  · exact h.in64 z hz
  · simp at hz
    rcases hz with rfl | rfl
    · exact hx
    · exact hy
/-- A row in new memory, and whether there is one. -/
def NewQ (n : Nat) (fs : List Int) (w : World) (e : Ending) (w' : World) : Prop := ∃ v, e = .returned v ∧ OwnQ w' w.heap.size w'.heap.size v n fs ∧ Below w.heap.size w w'
def NewQB (n : Nat) (fs : List Int) (ok : Bool) (w : World) (e : Ending) (w' : World) : Prop := ∃ v, e = .returned (.tuple #[v, .bool ok]) ∧ OwnQ w' w.heap.size w'.heap.size v n fs ∧ Below w.heap.size w w'
theorem newQ_empty {w w1 : World} (hb : Below w.heap.size w w1) {g : Nat} (hg : g = w1.heap.size) : NewQB 0 [] false w (.returned (.tuple #[.slice (some ⟨g, 0, none⟩) 0 0, .bool false])) (w1.alloc (.cells #[] 39)) := by
  subst hg; exact ⟨_, rfl, OwnQ.empty w1 w.heap.size hb.size, hb.alloc hb.size _⟩
theorem newQ_back {n : Nat} {fs : List Int} {w w1 w2 : World} {v : Value} (hb : Below w.heap.size w w1) (h : OwnQ w2 w1.heap.size w2.heap.size v n fs) (hb2 : Below w1.heap.size w1 w2) : NewQB n fs true w (.returned (.tuple #[v, .bool true])) w2 :=
  ⟨_, rfl, h.low hb.size, hb.trans (hb2.mono hb.size)⟩
end Go.Proofs.Ytnpiciabpgkiiad
namespace Go.Proofs.Ytnpiciabpgkiiad
open Go.RowKit Go.Maps
set_option linter.unusedVariables false
theorem QPost.mono {v : Value} {w : World} {b m m' : Nat} {G : Value → Int × Int} {e : Ending} {w' : World} (h : QPost v w b m G e w') (hm : m ≤ m') : QPost v w b m' G e w' := by
  obtain ⟨he, k, hk, hM, ha⟩ := h
  exact ⟨he, k, Nat.le_trans hk hm, hM, ha⟩
/-- The greatest mean from a state on. -/
theorem bestC (T : QTab) (k n : Nat) (TQ : TypeId) (FE : FuncId) (Q : Quest T k n TQ FE) (b : Nat) : ∀ (d c r m : Nat) (w : World), c + d = n → r ≤ c → MapQ 128 w b m (GQ T k n) → m + 12 ^ d ≤ maxLen →
    Calls Try.prog 138 #[srcV TQ n b, .agg #[.int .i64 c, .int .i64 r]] w (QPost (.agg #[.int .i64 (T.v k n c r).1, .int .i64 (T.v k n c r).2]) w b (m + 12 ^ d) (GQ T k n)) := by
  intro d
  induction d with
  | zero =>
    intro c r m w hcd hr hm hroom
    obtain rfl : c = n := by omega
    exact bestE T k c r TQ FE Q hr b m w hm hroom
  | succ d ih =>
    intro c r m w hcd hr hm hroom
    have h10 := Q.n10
    have hX : (c + 1) * 12 ^ d + 1 ≤ 12 ^ (d + 1) := by
      have h1 : (c + 1) * 12 ^ d ≤ 10 * 12 ^ d := Nat.mul_le_mul_right _ (by omega)
      have h2 : 1 ≤ 12 ^ d := Nat.pow_pos (by decide)
      rw [Nat.pow_succ]
      omega
    refine (bestS T k n c r TQ FE Q (by omega) hr b m (12 ^ d) w hm (by omega) (fun r' m' w' hr' hm' hroom' => ?_)).mono (fun e w' h => h.mono (by omega))
    have := ih (c + 1) r' m' w' (by omega) hr' hm' hroom'
    rw [show (((c + 1 : Nat)) : Int) = (c : Int) + 1 by omega] at this
    exact this
theorem pow12 {d : Nat} (h : d ≤ 10) : 12 ^ d ≤ 100000000000 :=
  Nat.le_trans (Nat.pow_le_pow_right (by decide) h) (by decide)
theorem questRank {n : Nat} (h1 : 1 ≤ n) (h2 : n ≤ 10) : Quest qT2 2 n 135 305 where
  ok := q2Ok h1 h2
  n1 := h1
  n10 := h2
  m1 := fun _ _ => by kernel_rfl
  m2 := fun _ _ => by kernel_rfl
  eg := enters_of Try.func305 (by kernel_rfl) rfl
  en := fun c r w hc hr => ⟨_, _, _, endR n c r w ⟨h1, h2⟩ hc hr, fun h => by
    have hc0 : ¬ c = 0 := by have := of_decide_eq_true h; omega
    unfold qEnd; rw [if_neg (by decide), if_neg hc0], fun h => by
    have hc0 : c = 0 := by have := of_decide_eq_false h; omega
    unfold qEnd; rw [if_neg (by decide), if_pos hc0]⟩
set_option maxRecDepth 100000 in
set_option maxHeartbeats 2000000 in
theorem searchC (TQ : TypeId) (v : Value) (G : Value → Int × Int) (w : World) :
    Calls Try.prog 137 #[.iface TQ v] w fun e w' => ∃ b, e = .returned (.agg #[.iface TQ v, .map (some b)]) ∧ MapQ 128 w' b 0 G ∧ Below w.heap.size w w' ∧ w.heap.size ≤ b := by
  have hmm := @run_makeMap Try.prog
  obtain ⟨wa, hwa⟩ : ∃ wa, wa = w.alloc (.cells #[.nilIface, .map none] 125) := ⟨_, rfl⟩
  have KA : wa.heap[w.heap.size]? = some (.cells #[.nilIface, .map none] 125 (0, 0)) := by rw [hwa]; exact alloc_heap w _
  have BA : Below w.heap.size w wa := by rw [hwa]; exact (Below.refl w.heap.size w).alloc (Nat.le_refl _) _
  have SA : wa.heap.size = w.heap.size + 1 := by rw [hwa]; simp
  have KB : (wa.alloc (.map #[] 0)).heap[w.heap.size]? = some (.cells #[.nilIface, .map none] 125 (0, 0)) := (((Below.refl wa.heap.size wa).alloc (Nat.le_refl _) _).block w.heap.size (by omega)).trans KA
  have KM := MapQ.made 128 wa G
  rw [SA] at KM
  have BB := Lib.hid (BA.alloc BA.size (.map #[] 0))
  obtain ⟨x0, f0⟩ := cell_of_heap (o := 0) KB rfl
  obtain ⟨x1, f1⟩ := cell_of_heap (o := 1) KB rfl
  have x0' : (wa.alloc (.map #[] 0)).cell? ⟨w.heap.size, 0, none⟩ = some .nilIface := x0
  have x1' : (wa.alloc (.map #[] 0)).cell? ⟨w.heap.size, 1, none⟩ = some (.map none) := x1
  clear KA KB x0 x1
  go_enter Try.func137, Try.ntmps137
  go_upto_region 1 with fail
  rw [← hwa]
  clear hwa
  generalize hwb : wa.alloc (.map #[] 0) = wb at *
  go_wp2_with fail
  first
    | (rw [hwb]; go_wp2_with fail)
    | skip
  refine bodyPost_ret (v := .agg #[.iface TQ v, .map (some (w.heap.size + 1))]) (by simp [results, Try.results137, go_sem, x0', x1']) rfl ⟨w.heap.size + 1, rfl, ?_, ?_, by omega⟩
  · exact (KM.set (by omega)).set (by omega)
  · exact (BB.out.setCell (p := ⟨w.heap.size, 0, none⟩) (Nat.le_refl _) _).setCell (p := ⟨w.heap.size, 1, none⟩) (Nat.le_refl _) _
end Go.Proofs.Ytnpiciabpgkiiad
namespace Go.Proofs.Ytnpiciabpgkiiad
open Go.RowKit Go.Maps
set_option linter.unusedVariables false
set_option maxRecDepth 100000 in
set_option maxHeartbeats 2000000 in
theorem endB (n c r : Nat) (w : World) (hn : 1 ≤ n ∧ n ≤ 10) (hc : c ≤ n) (hr : r ≤ c) :
    Calls Try.prog 304 #[.agg #[.int .i64 n], .agg #[.int .i64 c, .int .i64 r]] w (Gives (.tuple #[.agg #[.int .i64 (qEnd 1 n c r).1, .int .i64 (qEnd 1 n c r).2], .bool true]) w) := by
  have i1 : (n : Int) ≤ 10 := by omega
  have i2 : (c : Int) ≤ 10 := by omega
  have i3 : (r : Int) ≤ 10 := by omega
  obtain ⟨wa, hwa⟩ : ∃ wa, wa = ((w.alloc (.cells #[.int .i64 n] 131)).alloc (.cells #[.int .i64 c, .int .i64 r] 128)).alloc (.cells #[.int .i64 0, .int .i64 0] 39) := ⟨_, rfl⟩
  have B3 : Below w.heap.size w wa := by rw [hwa]; exact (((Below.refl w.heap.size w).alloc (Nat.le_refl _) _).alloc (by simp) _).alloc (by simp; omega) _
  obtain ⟨k0, k1, k2⟩ := heap_three w (.cells #[.int .i64 n] 131) (.cells #[.int .i64 c, .int .i64 r] 128) (.cells #[.int .i64 0, .int .i64 0] 39)
  rw [← hwa] at k0 k1 k2
  have x0 := (cell_of_heap (o := 0) k0 rfl).1
  have T1 := Lib.hid (show CB wa (w.heap.size + 1) c r from k1)
  have T2 := Lib.hid (show QBox wa (w.heap.size + 1 + 1) 0 0 from k2)
  clear k0 k1 k2
  obtain ⟨y0, y1⟩ := T1.out.cells
  by_cases h : r = 1
  · have RD := Lib.hid (fun w => reduceI_any (c : Int) (n : Int) w (by omega) (by omega))
    have f := (q1Ok hn.1 hn.2).fe c (by omega) r (by omega)
    rw [show qEnd 1 n c r = (cutN c n, cutD c n) by unfold qEnd; rw [if_pos rfl, if_pos h]] at f ⊢
    rw [show keptV (cutN (c : Int) n) (cutD (c : Int) n) = .tuple #[.agg #[.int .i64 (cutN (c : Int) n), .int .i64 (cutD (c : Int) n)], .bool true] by
      unfold isFr at f
      simp only [Bool.and_eq_true] at f
      exact if_pos f.1] at RD
    have HR1 := Lib.hid (show (r : Int) = 1 by omega)
    generalize cutN (c : Int) n = p at *
    generalize cutD (c : Int) n = q at *
    clear f hn hc hr h
    go_enter Try.func304, Try.ntmps304
    go_upto_region 1 with fail
    rw [← hwa]
    clear hwa
    rw [HR1.out] at y1 ⊢
    go_wp2_with fail
    refine (RD.out _).mono ?_
    rintro e w1 ⟨rfl, b1⟩
    obtain ⟨⟨c0, c1⟩, f0, f1⟩ := (T2.out.below b1 T2.out.lt).cells
    have HB := Lib.hid (bl_then B3 b1)
    clear b1 x0 y0 y1
    go_wp2_with fail
    refine bodyPost_ret (v := .tuple #[.agg #[.int .i64 p, .int .i64 q], .bool true]) (by simp [results, Try.results304, go_sem, c0, c1]) rfl ⟨rfl, ?_⟩
    exact bl_st HB.out (by omega) _ _
  · rw [show qEnd 1 n c r = (0, 1) by unfold qEnd; rw [if_pos rfl, if_neg h]]
    have hr1 : ¬ (r : Int) = 1 := by omega
    have hr2 : ((r : Int) == 1) = false := by rw [beq_eq_false_iff_ne]; exact hr1
    obtain ⟨⟨c0, c1⟩, f0, f1⟩ := T2.out.cells
    clear hn hc hr h
    go_enter Try.func304, Try.ntmps304
    go_upto_region 1 with fail
    rw [← hwa]
    clear hwa
    go_wp2_with fail
    refine bodyPost_ret (v := .tuple #[.agg #[.int .i64 0, .int .i64 1], .bool true]) (by simp [results, Try.results304, go_sem, c0, c1]) rfl ⟨rfl, ?_⟩
    exact bl_st B3 (by omega) _ _
theorem questBest {n : Nat} (h1 : 1 ≤ n) (h2 : n ≤ 10) : Quest qT1 1 n 131 304 where
  ok := q1Ok h1 h2
  n1 := h1
  n10 := h2
  m1 := fun _ _ => by kernel_rfl
  m2 := fun _ _ => by kernel_rfl
  eg := enters_of Try.func304 (by kernel_rfl) rfl
  en := fun c r w hc hr => ⟨_, _, _, endB n c r w ⟨h1, h2⟩ hc hr, fun _ => rfl, fun h => by cases h⟩
end Go.Proofs.Ytnpiciabpgkiiad
namespace Go.Proofs.Ytnpiciabpgkiiad
open Go.RowKit
set_option linter.unusedVariables false
theorem inL_no {l : List Int} {k : Nat} {z : Int} (h : k < l.length) (hn : inL (l.take k) z = false) (hz : l.getD k 0 ≠ z) : inL (l.take (k + 1)) z = false := by
  rw [inL_take h, if_neg (fun e => hz e.symm)]; exact hn
theorem inL_yes {l : List Int} {k : Nat} {z : Int} (h : k < l.length) (hz : l.getD k 0 = z) : inL l z = true := by
  unfold inL
  rw [decide_eq_true_iff, ← hz, List.getD_eq_getElem?_getD, List.getElem?_eq_getElem h]
  exact List.getElem_mem h
set_option maxHeartbeats 1000000 in
theorem hasS (zs : List Int) (z : Int) (v : Value) (B : Nat) (w : World) (hl : zs.length ≤ 1048576) (h : IntsV w B v zs) :
    Calls Try.prog 209 #[v, .int .i64 z] w fun e w' => e = .returned (.bool (inL zs z)) ∧ ∃ n, w' = w.drewN n := by
  obtain ⟨q, cq, rfl, lq, mq, zq, iq⟩ := h
  have E1 := Lib.hid iq
  clear iq zq mq
  go_enter Try.func209, Try.ntmps209
  go_wp2
  go_loopw [5] (fun i wr => ∃ k : Nat, k ≤ zs.length ∧ i = .int .i64 k ∧ Hid (inL (zs.take k) z = false) ∧ ∃ n, wr = w.drewN n) (fun i _ => zs.length - (intOf i).toNat)
  case atStart => exact ⟨0, Nat.zero_le _, rfl, Lib.hid (by simp [inL]), 0, rfl⟩
  case round =>
    obtain ⟨k, hk, rfl, HN, n, rfl⟩ := hrel
    by_cases hlt : k < zs.length
    · obtain ⟨b, off, rfl, hb, hc⟩ := E1.out.get hlt
      have i0 : (0 : Int) ≤ (k : Int) := by omega
      have i1 : (k : Int) < (zs.length : Int) := by omega
      have Y := Lib.hid (inL_yes (z := z) hlt)
      have N := Lib.hid (inL_no (z := z) hlt HN.out)
      obtain ⟨x, hx⟩ : ∃ x, x = zs.getD k 0 := ⟨_, rfl⟩
      rw [← hx] at hc Y N
      clear hx HN
      by_cases hxz : x = z
      · have R := Lib.hid (Y.out hxz)
        have hb1 : (x == z) = true := by simpa using hxz
        clear Y N hxz
        go_wp2
        go_ret
        exact ⟨ret_b R.out, n, rfl⟩
      · have R := Lib.hid (N.out hxz)
        have hb1 : (x == z) = false := by simpa using hxz
        clear Y N hxz
        go_wp2
        go_roundw
        case rel => exact ⟨k + 1, by omega, by go_num, R, n, rfl⟩
        case measure => simp [intOf]; omega
    · have R : Hid (inL zs z = false) := Lib.hid (by have := HN.out; rwa [show k = zs.length by omega, List.take_of_length_le (Nat.le_refl _)] at this)
      clear HN
      go_wp2
      go_ret
      exact ⟨ret_b R.out, n, rfl⟩
/-- Numbers that rise, of nodes. -/
def riAt (n : Nat) (evs : List Int) (i : Nat) : Bool := decide (0 ≤ evs.getD i 0 ∧ evs.getD i 0 ≤ (n : Int) - 1) && (decide (i = 0) || decide (evs.getD (i - 1) 0 < evs.getD i 0))
def riB (n : Nat) (evs : List Int) : Bool := (List.range evs.length).all (riAt n evs)
theorem riB_false {n : Nat} {evs : List Int} {i : Nat} (hi : i < evs.length) (h : riAt n evs i = false) : riB n evs = false := by
  cases hb : riB n evs
  · rfl
  · unfold riB at hb
    rw [List.all_eq_true] at hb
    rw [hb i (List.mem_range.2 hi)] at h
    cases h
def poAt (ws evs : List Int) (i : Nat) : Bool := decide (0 < ws.getD (evs.getD i 0).toNat 0)
theorem evAt_parts (ps ws evs : List Int) (i : Nat) : evAt ps ws evs i = (riAt ps.length evs i && poAt ws evs i) := by
  unfold evAt riAt poAt
  have : decide (0 ≤ evs.getD i 0 ∧ evs.getD i 0 < (ps.length : Int)) = decide (0 ≤ evs.getD i 0 ∧ evs.getD i 0 ≤ (ps.length : Int) - 1) := by
    congr 1; apply propext; constructor <;> rintro ⟨a, b⟩ <;> exact ⟨a, by omega⟩
  rw [this, Bool.and_assoc, Bool.and_comm (decide (0 < _))]
end Go.Proofs.Ytnpiciabpgkiiad
namespace Go.Proofs.Ytnpiciabpgkiiad
set_option linter.unusedVariables false
def rkN (n k : Nat) : Int × Int := (-(qT2.m n k).1, (qT2.m n k).2)
def rkS (n k j : Nat) : Int × Int := (-(qT2.s n (k - 1) j).1, (qT2.s n (k - 1) j).2)
def rkT (n k j : Nat) : Int × Int := (cutN (((n : Int) + 1) * (j + 1)) (k + 1), cutD (((n : Int) + 1) * (j + 1)) (k + 1))
def rkC (n k j : Nat) : Int × Int := if (rkN n k).1 * (rkT n k j).2 < (rkT n k j).1 * (rkN n k).2 then rkN n k else rkT n k j
theorem rk1 : ∀ n : Nat, n < 11 → 1 ≤ n → (cutN ((n : Int) + 1) 2, cutD ((n : Int) + 1) 2) = rkN n (n - 1) := by decide +kernel
theorem rk2 : ∀ n : Nat, n < 11 → ∀ k : Nat, k < n → 1 ≤ k → rkS n k 0 = (0, 1) := by decide +kernel
theorem rk3 : ∀ n : Nat, n < 11 → ∀ k : Nat, k < n → 1 ≤ k → ∀ j : Nat, j < k → (cutN ((rkS n k j).1 * (rkC n k j).2 + (rkC n k j).1 * (rkS n k j).2) ((rkS n k j).2 * (rkC n k j).2), cutD ((rkS n k j).1 * (rkC n k j).2 + (rkC n k j).1 * (rkS n k j).2) ((rkS n k j).2 * (rkC n k j).2)) = rkS n k (j + 1) := by decide +kernel
theorem rk4 : ∀ n : Nat, n < 11 → ∀ k : Nat, k < n → 1 ≤ k → (cutN ((rkS n k k).1 * 1) ((rkS n k k).2 * k), cutD ((rkS n k k).1 * 1) ((rkS n k k).2 * k)) = rkN n (k - 1) := by decide +kernel
theorem rk5 : ∀ n : Nat, n < 11 → ∀ k : Nat, k < n → isFr (rkN n k).1 (rkN n k).2 = true := by decide +kernel
theorem rk6 : ∀ n : Nat, n < 11 → ∀ k : Nat, k < n → 1 ≤ k → ∀ j : Nat, j < k + 1 → isFr (rkS n k j).1 (rkS n k j).2 = true := by decide +kernel
theorem rk7 : ∀ n : Nat, n < 11 → ∀ k : Nat, k < n → 1 ≤ k → ∀ j : Nat, j < k → isFr (rkT n k j).1 (rkT n k j).2 = true := by decide +kernel
theorem rk8 : ∀ n : Nat, n < 11 → 1 ≤ n → (-(qT2.v 2 n 0 0).1, (qT2.v 2 n 0 0).2) = rkN n 0 := by decide +kernel
end Go.Proofs.Ytnpiciabpgkiiad
namespace Go.Proofs.Ytnpiciabpgkiiad
open Go.RowKit
set_option linter.unusedVariables false
/-- What RankMean returns. -/
def rkV (n : Int) : Value := if 1 ≤ n ∧ n ≤ 10 then .tuple #[.agg #[.int .i64 (rkN n.toNat 0).1, .int .i64 (rkN n.toNat 0).2], .bool true] else .tuple #[.agg #[.int .i64 0, .int .i64 0], .bool false]
theorem rkV_form (n : Int) : ∃ p q ok, rkV n = .tuple #[.agg #[.int .i64 p, .int .i64 q], .bool ok] := by
  unfold rkV; split <;> exact ⟨_, _, _, rfl⟩
theorem peopleR (n : Int) (w : World) : Calls Try.prog 133 #[.int .i64 n] w fun e w' => e = .returned (.bool (decide (1 ≤ n ∧ n ≤ 10))) ∧ w = w' := by
  have I := Lib.hid (fun w => inS n 1 10 w)
  generalize decide (1 ≤ n ∧ n ≤ 10) = bb at *
  go_enter Try.func133, Try.ntmps133
  go_wp2_with fail
  refine (I.out _).mono ?_
  rintro e w1 ⟨rfl, rfl⟩
  go_wp2_with fail
  go_ret
  exact ⟨rfl, rfl⟩
theorem rk_bd {n d : Int} (h : isFr n d = true) : (-1000000000 ≤ n ∧ n ≤ 1000000000) ∧ (1 ≤ d ∧ d ≤ 1000000) := by
  have := ((isFr_iff n d).1 h).1
  omega
theorem rkAdd {n k j : Nat} (hn : n < 11) (hk : k < n) (h1 : 1 ≤ k) (hj : j < k) (w : World) : Calls Try.prog 140 #[.agg #[.int .i64 (rkS n k j).1, .int .i64 (rkS n k j).2], .agg #[.int .i64 (rkC n k j).1, .int .i64 (rkC n k j).2]] w (Gives (.agg #[.int .i64 (rkS n k (j + 1)).1, .int .i64 (rkS n k (j + 1)).2]) w) := by
  have a := rk_bd (rk6 n hn k hk h1 j (by omega))
  have hC : isFr (rkC n k j).1 (rkC n k j).2 = true := by
    unfold rkC; split
    · exact rk5 n hn k hk
    · exact rk7 n hn k hk h1 j hj
  have c := rk_bd hC
  have A := addS (rkS n k j).1 (rkS n k j).2 (rkC n k j).1 (rkC n k j).2 w a.1 a.2 c.1 c.2
  rw [← rk3 n hn k hk h1 j hj]
  exact A
theorem rkTimes {n k : Nat} (hn : n < 11) (hk : k < n) (h1 : 1 ≤ k) (w : World) : Calls Try.prog 141 #[.agg #[.int .i64 (rkS n k k).1, .int .i64 (rkS n k k).2], .agg #[.int .i64 1, .int .i64 k]] w (Gives (.agg #[.int .i64 (rkN n (k - 1)).1, .int .i64 (rkN n (k - 1)).2]) w) := by
  have f := rk6 n hn k hk h1 k (by omega)
  have a := rk_bd f
  have A := timesS (rkS n k k).1 (rkS n k k).2 1 (k : Int) w a.1 a.2 (by omega) (by omega) ((isFr_iff _ _).1 f).2 (by unfold gI; simp)
  rw [← rk4 n hn k hk h1]
  exact A
set_option maxRecDepth 100000 in
set_option maxHeartbeats 4000000 in
theorem rankS (n : Int) (w : World) : Calls Try.prog 50 #[.int .i64 n] w (Gives (rkV n) w) := by
  have F := Lib.hid (fun w => peopleR n w)
  have B0 := Lib.hid (bl_self w (.cells #[.int .i64 0, .int .i64 0] 39))
  have RC := Lib.hid (fun w3 b => rs_cells (w := w) (w3 := w3) b)
  have RF := Lib.hid (fun w3 x y b => rs_fin (w := w) (w3 := w3) (x := x) (y := y) b)
  by_cases h : 1 ≤ n ∧ n ≤ 10
  · rw [decide_eq_true h] at F
    obtain ⟨N, rfl⟩ : ∃ N : Nat, n = N := ⟨n.toNat, by omega⟩
    have hN : N < 11 := by omega
    have hN1 : 1 ≤ N := by omega
    have iN : (N : Int) ≤ 10 := h.2
    have iN1 : 1 ≤ (N : Int) := h.1
    rw [show rkV N = .tuple #[.agg #[.int .i64 (rkN N 0).1, .int .i64 (rkN N 0).2], .bool true] from if_pos h]
    have CU := Lib.hid (fun w => show Calls Try.prog 125 #[.int .i64 ((N : Int) + 1), .int .i64 2] w (Gives (.agg #[.int .i64 (rkN N (N - 1)).1, .int .i64 (rkN N (N - 1)).2]) w) from by
      rw [← rk1 N hN hN1]; exact cutS _ _ w (by omega) (by omega))
    have CT := Lib.hid (fun k j (hk : k < N) (hj : j < k) w => show Calls Try.prog 125 #[.int .i64 (((N : Int) + 1) * ((j : Int) + 1)), .int .i64 ((k : Int) + 1)] w (Gives (.agg #[.int .i64 (rkT N k j).1, .int .i64 (rkT N k j).2]) w) from by
      have e1 : ((N : Int) + 1) * ((j : Int) + 1) ≤ 11 * 11 := Int.mul_le_mul (by omega) (by omega) (by omega) (by omega)
      have e2 : 0 ≤ ((N : Int) + 1) * ((j : Int) + 1) := Int.mul_nonneg (by omega) (by omega)
      exact cutS _ _ w (by omega) (by omega))
    have LT := Lib.hid (fun k j (hk : k < N) (h1 : 1 ≤ k) (hj : j < k) w => show Calls Try.prog 136 #[.agg #[.int .i64 (rkN N k).1, .int .i64 (rkN N k).2], .agg #[.int .i64 (rkT N k j).1, .int .i64 (rkT N k j).2]] w (Gives (.bool (decide ((rkN N k).1 * (rkT N k j).2 < (rkT N k j).1 * (rkN N k).2))) w) from by
      have a := rk_bd (rk5 N hN k hk)
      have c := rk_bd (rk7 N hN k hk h1 j hj)
      exact lessS _ _ _ _ w a.1 a.2 c.1 c.2)
    have AD := Lib.hid (fun k j (hk : k < N) (h1 : 1 ≤ k) (hj : j < k) w => rkAdd hN hk h1 hj w)
    have TM := Lib.hid (fun k (hk : k < N) (h1 : 1 ≤ k) w => rkTimes hN hk h1 w)
    have Z0 := Lib.hid (fun k (hk : k < N) (h1 : 1 ≤ k) => rk2 N hN k hk h1)
    have KP := Lib.hid (fun w => keptS_yes (rkN N 0).1 (rkN N 0).2 w (rk5 N hN 0 (by omega)))
    have W9 := Lib.hid (fun (k j : Nat) (hk : k < N) (hj : j < k) => show IntKind.i64.wrap (((N : Int) + 1) * ((j : Int) + 1)) = ((N : Int) + 1) * ((j : Int) + 1) from by
      have e1 : ((N : Int) + 1) * ((j : Int) + 1) ≤ 11 * 11 := Int.mul_le_mul (by omega) (by omega) (by omega) (by omega)
      have e2 : 0 ≤ ((N : Int) + 1) * ((j : Int) + 1) := Int.mul_nonneg (by omega) (by omega)
      exact IntWalk.i64_in _ (by omega))
    clear h
    obtain ⟨wa, hwa⟩ : ∃ wa, wa = w.alloc (.cells #[.int .i64 0, .int .i64 0] 39) := ⟨_, rfl⟩
    rw [← hwa] at B0 RC RF
    have SZ : wa.heap.size = w.heap.size + 1 := by rw [hwa]; simp
    go_enter Try.func50, Try.ntmps50
    go_wp2_with fail
    rw [← hwa]
    clear hwa
    refine (F.out _).mono ?_
    rintro e w1 ⟨rfl, rfl⟩
    go_wp2_with fail
    refine (CU.out _).mono ?_
    rintro e w2 ⟨rfl, b2⟩
    have B2 := Lib.hid (B0.out.trans (b2.mono B0.out.size))
    have hs2 := b2.size
    have QN := Lib.hid (QBox.new w2 (rkN N (N - 1)).1 (rkN N (N - 1)).2)
    have BN := Lib.hid (B2.out.alloc B2.out.size (.cells #[.int .i64 (rkN N (N - 1)).1, .int .i64 (rkN N (N - 1)).2] 39))
    clear b2
    have iN2 : (N : Int) - 1 = ((N - 1 : Nat) : Int) := by omega
    go_wp2_with fail
    obtain ⟨gN, hgN⟩ : ∃ gN, gN = w2.heap.size := ⟨_, rfl⟩
    rw [← hgN] at QN ⊢
    have hg1 : w.heap.size + 1 ≤ gN := by omega
    clear hgN hs2
    go_loopg [5] N (fun gg i wr => ∃ k : Nat, k < N ∧ k ≤ gg ∧ i = .int .i64 k ∧ Hid (QBox wr gN (rkN N k).1 (rkN N k).2) ∧ Hid (Below wa.heap.size wa wr))
    case atStart => exact ⟨N - 1, by omega, by omega, rfl, QN, BN⟩
    case round =>
      clear QN BN B2
      obtain ⟨k, hkN, hgg, rfl, HN, HB⟩ := hrel
      obtain ⟨wq, rfl⟩ : ∃ wq : World, wq = wr := ⟨_, rfl⟩
      by_cases hk : 1 ≤ k
      · have i1 : 1 ≤ (k : Int) := by omega
        have i2 : (k : Int) < (N : Int) := by omega
        have hgl := HN.out.lt
        have HS0 := Lib.hid (QBox.new wq 0 1)
        have HN0 := Lib.hid (HN.out.below ((Below.refl wq.heap.size wq).alloc (Nat.le_refl _) (.cells #[.int .i64 0, .int .i64 1] 39)) hgl)
        have HB0 := Lib.hid (HB.out.alloc HB.out.size (.cells #[.int .i64 0, .int .i64 1] 39))
        have z0 := Lib.hid (Z0.out k hkN hk)
        go_wp2_with fail
        obtain ⟨gS, hgS⟩ : ∃ gS, gS = wq.heap.size := ⟨_, rfl⟩
        rw [← hgS] at HS0 hgl ⊢
        have hgS1 : w.heap.size + 1 ≤ gS := by have := HB.out.size; omega
        clear hgS
        go_loopg [7] k (fun gg i wr => ∃ j : Nat, j ≤ k ∧ k - j ≤ gg ∧ i = .int .i64 ((j : Int) + 1) ∧ Hid (QBox wr gN (rkN N k).1 (rkN N k).2) ∧ Hid (QBox wr gS (rkS N k j).1 (rkS N k j).2) ∧ Hid (Below wa.heap.size wa wr))
        case atStart => exact ⟨0, by omega, by omega, rfl, HN0, by rw [z0.out]; exact HS0, HB0⟩
        case round =>
          clear HN0 HS0 HB0 HN HB
          obtain ⟨j, hj, hgg2, rfl, HN, HS, HB⟩ := hrel
          by_cases hlt : j < k
          · have i3 : (j : Int) + 1 ≤ (k : Int) := by omega
            have i4 : 0 ≤ (j : Int) := by omega
            have W1 := W9.out k j hkN hlt
            have CTx := Lib.hid (CT.out k j hkN hlt)
            have LTx := Lib.hid (LT.out k j hkN hk hlt)
            have ADx := Lib.hid (AD.out k j hkN hk hlt)
            unfold rkC at ADx
            go_wp2_with fail
            refine (CTx.out _).mono ?_
            rintro e w4 ⟨rfl, b4⟩
            obtain ⟨w5, hw5⟩ : ∃ w5, w5 = w4.alloc (.cells #[.int .i64 (rkT N k j).1, .int .i64 (rkT N k j).2] 39) := ⟨_, rfl⟩
            have b5 : Below wr.heap.size wr w5 := by rw [hw5]; exact b4.alloc b4.size _
            have HT5 := Lib.hid (show QBox w5 w4.heap.size (rkT N k j).1 (rkT N k j).2 by rw [hw5]; exact QBox.new _ _ _)
            have HN5 := Lib.hid (HN.out.below b5 HN.out.lt)
            have HS5 := Lib.hid (HS.out.below b5 HS.out.lt)
            have HB5 := Lib.hid (HB.out.trans (b5.mono HB.out.size))
            have q1 : gN ≠ w4.heap.size := by have := HN.out.lt; have := b4.size; omega
            have q2 : gS ≠ w4.heap.size := by have := HS.out.lt; have := b4.size; omega
            have q3 : wa.heap.size ≤ w4.heap.size := by have := HB.out.size; have := b4.size; omega
            clear b4 b5 HN HS HB
            go_upto_region 12 with fail
            rw [← hw5]
            clear hw5
            obtain ⟨⟨n0, n1⟩, _, _⟩ := HN5.out.cells
            obtain ⟨⟨t0, t1⟩, _, _⟩ := HT5.out.cells
            go_wp2_with fail
            refine (LTx.out _).mono ?_
            rintro e w6 ⟨rfl, b6⟩
            have HT6 := Lib.hid (HT5.out.below b6 HT5.out.lt)
            have HN6 := Lib.hid (HN5.out.below b6 HN5.out.lt)
            have HS6 := Lib.hid (HS5.out.below b6 HS5.out.lt)
            have HB6 := Lib.hid (HB5.out.trans (b6.mono HB5.out.size))
            clear b6 n0 n1 t0 t1 HT5 HN5 HS5 HB5
            obtain ⟨⟨n0, n1⟩, _, _⟩ := HN6.out.cells
            obtain ⟨⟨t0, t1⟩, f0, f1⟩ := HT6.out.cells
            obtain ⟨⟨s0, s1⟩, g0, g1⟩ := HS6.out.cells
            by_cases hc : (rkN N k).1 * (rkT N k j).2 < (rkT N k j).1 * (rkN N k).2
            · rw [if_pos hc] at ADx
              rw [decide_eq_true hc]
              clear hc
              have HN7 := Lib.hid ((HN6.out.far (o := 0) (x := .int .i64 (rkN N k).1) q1).far (o := 1) (x := .int .i64 (rkN N k).2) q1)
              have HS7 := Lib.hid ((HS6.out.far (o := 0) (x := .int .i64 (rkN N k).1) q2).far (o := 1) (x := .int .i64 (rkN N k).2) q2)
              have HT7 := Lib.hid (HT6.out.st (rkN N k).1 (rkN N k).2)
              have HB7 := Lib.hid (bl_st HB6.out q3 (.int .i64 (rkN N k).1) (.int .i64 (rkN N k).2))
              go_upto_region 14 with fail
              obtain ⟨w7, hw7⟩ : ∃ w7, w7 = ((w6.setCell ⟨w4.heap.size, 0, none⟩ (.int .i64 (rkN N k).1)).setCell ⟨w4.heap.size, 1, none⟩ (.int .i64 (rkN N k).2)) := ⟨_, rfl⟩
              rw [← hw7] at HN7 HS7 HT7 HB7 ⊢
              clear hw7 n0 n1 t0 t1 f0 f1 s0 s1 g0 g1 HN6 HS6 HT6 HB6
              obtain ⟨⟨t0, t1⟩, _, _⟩ := HT7.out.cells
              obtain ⟨⟨s0, s1⟩, _, _⟩ := HS7.out.cells
              go_wp2_with fail
              refine (ADx.out _).mono ?_
              rintro e w8 ⟨rfl, b8⟩
              have HN8 := Lib.hid (HN7.out.below b8 HN7.out.lt)
              have HS8 := Lib.hid (HS7.out.below b8 HS7.out.lt)
              have HB8 := Lib.hid (HB7.out.trans (b8.mono HB7.out.size))
              have qNS : gN ≠ gS := by omega
              clear b8 t0 t1 s0 s1
              obtain ⟨⟨s0, s1⟩, g0, g1⟩ := HS8.out.cells
              go_wp2_with fail
              go_roundg (k - (j + 1))
              case rel => exact ⟨j + 1, by omega, by omega, by go_num, Lib.hid ((HN8.out.far qNS).far qNS), Lib.hid (HS8.out.st _ _), Lib.hid (bl_st HB8.out (by omega) _ _)⟩
              case measure => omega
            · rw [if_neg hc] at ADx
              rw [decide_eq_false hc]
              clear hc
              obtain ⟨w7, rfl⟩ : ∃ w7 : World, w7 = w6 := ⟨_, rfl⟩
              have HN7 := HN6
              have HS7 := HS6
              have HT7 := HT6
              have HB7 := HB6
              clear n0 n1 t0 t1 f0 f1 s0 s1 g0 g1 HN6 HS6 HT6 HB6
              go_upto_region 14 with fail
              obtain ⟨⟨t0, t1⟩, _, _⟩ := HT7.out.cells
              obtain ⟨⟨s0, s1⟩, _, _⟩ := HS7.out.cells
              go_wp2_with fail
              refine (ADx.out _).mono ?_
              rintro e w8 ⟨rfl, b8⟩
              have HN8 := Lib.hid (HN7.out.below b8 HN7.out.lt)
              have HS8 := Lib.hid (HS7.out.below b8 HS7.out.lt)
              have HB8 := Lib.hid (HB7.out.trans (b8.mono HB7.out.size))
              have qNS : gN ≠ gS := by omega
              clear b8 t0 t1 s0 s1
              obtain ⟨⟨s0, s1⟩, g0, g1⟩ := HS8.out.cells
              go_wp2_with fail
              go_roundg (k - (j + 1))
              case rel => exact ⟨j + 1, by omega, by omega, by go_num, Lib.hid ((HN8.out.far qNS).far qNS), Lib.hid (HS8.out.st _ _), Lib.hid (bl_st HB8.out (by omega) _ _)⟩
              case measure => omega
          · have hjk : j = k := by omega
            have i3 : ¬ (j : Int) + 1 ≤ (k : Int) := by omega
            rw [hjk] at HS
            have TMx := Lib.hid (TM.out k hkN hk)
            have gSN : gN ≠ gS := by omega
            obtain ⟨⟨s0, s1⟩, _, _⟩ := HS.out.cells
            go_wp2_with fail
            refine (TMx.out _).mono ?_
            rintro e w4 ⟨rfl, b4⟩
            have HN4 := Lib.hid (HN.out.below b4 HN.out.lt)
            have HB4 := Lib.hid (HB.out.trans (b4.mono HB.out.size))
            obtain ⟨⟨n0, n1⟩, f0, f1⟩ := HN4.out.cells
            have ik : (k : Int) - 1 = ((k - 1 : Nat) : Int) := by omega
            clear b4 s0 s1
            go_wp2_with fail
            go_roundg (k - 1)
            case rel => exact ⟨k - 1, by omega, by omega, by first | rfl | go_num, Lib.hid (HN4.out.st _ _), Lib.hid (bl_st HB4.out (by omega) _ _)⟩
            case measure => omega
      · have hk0 : k = 0 := by omega
        subst hk0
        obtain ⟨⟨n0, n1⟩, _, _⟩ := HN.out.cells
        go_wp2_with fail
        refine (KP.out _).mono ?_
        rintro e w4 ⟨rfl, b4⟩
        have HB4 := Lib.hid (HB.out.trans (b4.mono HB.out.size))
        obtain ⟨⟨x0, y0⟩, x1, y1⟩ := RC.out _ HB4.out
        go_wp2_with fail
        refine bodyPost_ret (v := .tuple #[.agg #[.int .i64 (rkN N 0).1, .int .i64 (rkN N 0).2], .bool true]) (by simp [results, Try.results50, go_sem, x0, x1]) rfl ⟨rfl, ?_⟩
        exact RF.out _ _ _ HB4.out
  · rw [decide_eq_false h] at F
    rw [show rkV n = .tuple #[.agg #[.int .i64 0, .int .i64 0], .bool false] from if_neg h]
    clear h
    go_enter Try.func50, Try.ntmps50
    go_wp2_with fail
    refine (F.out _).mono ?_
    rintro e w1 ⟨rfl, rfl⟩
    go_wp2_with fail
    refine bodyPost_ret (v := .tuple #[.agg #[.int .i64 0, .int .i64 0], .bool false]) (by simp [results, Try.results50, go_sem]) rfl ⟨rfl, ?_⟩
    first | exact RF.out _ _ _ B0.out | exact (Below.refl w.heap.size w).alloc (Nat.le_refl _) _
end Go.Proofs.Ytnpiciabpgkiiad
namespace Go.Proofs.Ytnpiciabpgkiiad
open Go.RowKit Go.Maps
set_option linter.unusedVariables false
theorem fromR (x a b : Int) (w : World) : Calls Try.prog 102 #[.int .i64 x, .int .i64 a, .int .i64 b] w fun e w' => e = .returned (.bool (decide (a ≤ x ∧ x ≤ b))) ∧ w = w' := by
  by_cases h1 : a ≤ x
  · by_cases h2 : x ≤ b
    · rw [decide_eq_true ⟨h1, h2⟩]
      go_enter Try.func102, Try.ntmps102
      go_wp2
      go_ret
      exact ⟨rfl, rfl⟩
    · rw [decide_eq_false (fun h => h2 h.2)]
      go_enter Try.func102, Try.ntmps102
      go_wp2
      go_ret
      exact ⟨rfl, rfl⟩
  · rw [decide_eq_false (fun h => h1 h.1)]
    go_enter Try.func102, Try.ntmps102
    go_wp2
    go_ret
    exact ⟨rfl, rfl⟩
def PBox (w : World) (R : Nat) (a b : Int) : Prop := w.heap[R]? = some (.cells #[.int .i64 a, .int .i64 b] 39 (0, 0))
theorem PBox.below {w w1 : World} {R C : Nat} {a b : Int} (h : PBox w R a b) (hb : Below C w w1) (hR : R < C) : PBox w1 R a b := (hb.block R hR).trans h
theorem PBox.lt {w : World} {R : Nat} {a b : Int} (h : PBox w R a b) : R < w.heap.size := by unfold PBox at h; exact (Array.getElem?_eq_some_iff.1 h).1
theorem PBox.cells {w : World} {R : Nat} {a b : Int} (h : PBox w R a b) : w.cell? ⟨R, 0, none⟩ = some (.int .i64 a) ∧ w.cell? ⟨R, 1, none⟩ = some (.int .i64 b) ∧ w.frozen? ⟨R, 0, none⟩ = false ∧ w.frozen? ⟨R, 1, none⟩ = false :=
  ⟨(cell_of_heap (o := 0) h rfl).1, (cell_of_heap (o := 1) h rfl).1, (cell_of_heap (o := 0) h rfl).2, (cell_of_heap (o := 1) h rfl).2⟩
set_option maxRecDepth 100000 in
set_option maxHeartbeats 4000000 in
theorem rankI (n : Int) (w : World) : Calls Try.prog 49 #[.int .i64 n] w (Gives (rkV n) w) := by
  have F := Lib.hid (fun w => fromR n 1 10 w)
  have B0 := Lib.hid (bl_self w (.cells #[.int .i64 0, .int .i64 0] 39))
  have RC := Lib.hid (fun w3 b => rs_cells (w := w) (w3 := w3) b)
  have RF := Lib.hid (fun w3 x y b => rs_fin (w := w) (w3 := w3) (x := x) (y := y) b)
  by_cases h : 1 ≤ n ∧ n ≤ 10
  · rw [decide_eq_true h] at F
    obtain ⟨N, rfl⟩ : ∃ N : Nat, n = N := ⟨n.toNat, by omega⟩
    have hN : N < 11 := by omega
    have hN1 : 1 ≤ N := by omega
    have hp := pow12 (d := N) (by omega)
    rw [show rkV N = .tuple #[.agg #[.int .i64 (rkN N 0).1, .int .i64 (rkN N 0).2], .bool true] from if_pos h]
    rw [← rk8 N hN hN1]
    have SE := Lib.hid (fun w => searchC 135 (.agg #[.int .i64 (N : Int)]) (GQ qT2 2 N) w)
    have BE : Hid (∀ b w, MapQ 128 w b 0 (GQ qT2 2 N) → Calls Try.prog 138 #[.agg #[.iface 135 (.agg #[.int .i64 N]), .map (some b)], .agg #[.int .i64 0, .int .i64 0]] w (QPost (.agg #[.int .i64 (qT2.v 2 N 0 0).1, .int .i64 (qT2.v 2 N 0 0).2]) w b (0 + 12 ^ N) (GQ qT2 2 N))) := Lib.hid (fun b w hM => bestC qT2 2 N _ _ (questRank hN1 (by omega)) b N 0 0 0 w (by omega) (Nat.le_refl _) hM (by unfold maxLen; omega))
    have vb := fr_bd ((q2Ok hN1 (by omega : N ≤ 10)).fv (c := 0) (r := 0) (by omega) (by omega))
    obtain ⟨v1, hv1⟩ : ∃ v1, v1 = (qT2.v 2 N 0 0).1 := ⟨_, rfl⟩
    obtain ⟨v2, hv2⟩ : ∃ v2, v2 = (qT2.v 2 N 0 0).2 := ⟨_, rfl⟩
    rw [← hv1, ← hv2] at BE vb ⊢
    dsimp only
    have W1 : IntKind.i64.wrap (-v1) = -v1 := IntWalk.i64_in _ (by omega)
    clear hv1 hv2 h hp
    obtain ⟨wa, hwa⟩ : ∃ wa, wa = w.alloc (.cells #[.int .i64 0, .int .i64 0] 39) := ⟨_, rfl⟩
    rw [← hwa] at B0 RC RF
    go_enter Try.func49, Try.ntmps49
    go_wp2_with fail
    rw [← hwa]
    clear hwa
    refine (F.out _).mono ?_
    rintro e w1 ⟨rfl, rfl⟩
    go_wp2_with fail
    refine (SE.out _).mono ?_
    rintro e w2 ⟨b, rfl, hM, b2, hb⟩
    have B2 := Lib.hid (B0.out.trans (b2.mono B0.out.size))
    clear b2
    go_wp2_with fail
    refine (BE.out b w2 hM).mono ?_
    rintro e w3 ⟨rfl, m3, hm3, hM3, al3⟩
    have hb2 := hM.lt
    have B3 := Lib.hid (B2.out.trans ((al3.below (by omega)).mono hb))
    have B4 := Lib.hid (B3.out.alloc B3.out.size (.cells #[.int .i64 v1, .int .i64 v2] 39))
    have QN := QBox.new w3 v1 v2
    clear al3 hM3 hM
    obtain ⟨⟨g0, g1⟩, _, _⟩ := QN.cells
    obtain ⟨⟨x0, y0⟩, x1, y1⟩ := RC.out _ B4.out
    go_wp2_with fail
    refine bodyPost_ret (v := .tuple #[.agg #[.int .i64 (-v1), .int .i64 v2], .bool true]) (by simp [results, Try.results49, go_sem, x0, x1]) rfl ⟨rfl, ?_⟩
    exact RF.out _ _ _ B4.out
  · rw [decide_eq_false h] at F
    rw [show rkV n = .tuple #[.agg #[.int .i64 0, .int .i64 0], .bool false] from if_neg h]
    clear h
    go_enter Try.func49, Try.ntmps49
    go_wp2_with fail
    refine (F.out _).mono ?_
    rintro e w1 ⟨rfl, rfl⟩
    go_wp2_with fail
    refine bodyPost_ret (v := .tuple #[.agg #[.int .i64 0, .int .i64 0], .bool false]) (by simp [results, Try.results49, go_sem]) rfl ⟨rfl, ?_⟩
    first | exact RF.out _ _ _ B0.out | exact (Below.refl w.heap.size w).alloc (Nat.le_refl _) _
end Go.Proofs.Ytnpiciabpgkiiad
namespace Go.Proofs.Ytnpiciabpgkiiad
set_option linter.unusedVariables false
/-- In how many ways k things of n can be chosen, factor by factor from above. -/
def chN (n : Nat) : Nat → Nat
  | 0 => 1
  | k + 1 => chN n k * (n - k) / (k + 1)
/-- The same, factor by factor from below. -/
def chS (n k : Nat) : Nat → Nat
  | 0 => 1
  | i + 1 => chS n k i * (n - k + (i + 1)) / (i + 1)
set_option maxRecDepth 100000 in
theorem chN_bd : ∀ n, n < 31 → ∀ k, k < 31 → chN n k ≤ 155117520 := by decide +kernel
set_option maxRecDepth 100000 in
theorem chS_bd : ∀ n, n < 31 → ∀ k, k < 31 → ∀ i, i < 31 → i ≤ k → k ≤ n → chS n k i ≤ 155117520 := by decide +kernel
set_option maxRecDepth 100000 in
theorem chS_eq : ∀ n, n < 31 → ∀ k, k < 31 → k ≤ n → chS n k k = chN n k := by decide +kernel
/-- The number of walks of m steps to x. -/
def wkI (m : Nat) (x : Int) : Int := if -(m : Int) ≤ x ∧ x ≤ m ∧ ((m : Int) + x) % 2 = 0 then (chN m (((m : Int) + x) / 2).toNat : Int) else 0
theorem wkI_bd {m : Nat} (hm : m ≤ 30) (x : Int) : 0 ≤ wkI m x ∧ wkI m x ≤ 155117520 := by
  unfold wkI
  split
  · have := chN_bd m (by omega) (((m : Int) + x) / 2).toNat (by omega)
    omega
  · omega
/-- The number of those that are never less than a floor. -/
def paI (m : Nat) (x f : Int) : Int := if f ≤ x ∧ x ≤ m then wkI m x - wkI m (2 * (f - 1) - x) else 0
theorem paI_bd {m : Nat} (hm : m ≤ 30) (x f : Int) : -155117520 ≤ paI m x f ∧ paI m x f ≤ 155117520 := by
  unfold paI
  have h1 := wkI_bd hm x
  have h2 := wkI_bd hm (2 * (f - 1) - x)
  split <;> omega
/-- The number of those that come to x for the first time. -/
def fpI (m : Nat) (x : Int) : Int := if -(m : Int) ≤ x ∧ x ≤ m then (wkI m x * max x (-x)) / (m : Int) else 0
set_option maxRecDepth 100000 in
theorem bal_eq : ∀ p, p < 31 → ∀ q, q < 31 → p + q < 31 → 0 < p + q → paI (p + q - 1) ((p : Int) - 1 - q) 0 = max 0 ((p : Int) - q) * (chN (p + q) p : Int) / ((p : Int) + q) := by decide +kernel
set_option maxRecDepth 100000 in
theorem tie_eq : ∀ p, p < 31 → ∀ q, q < 31 → p + q < 31 → paI (p + q) ((p : Int) - q) 0 = max 0 ((p : Int) + 1 - q) * (chN (p + q) p : Int) / ((p : Int) + 1) := by decide +kernel
def balI (p q : Nat) : Int := if p + q = 0 then 1 else paI (p + q - 1) ((p : Int) - 1 - q) 0
def tieI (p q : Nat) : Int := paI (p + q) ((p : Int) - q) 0
end Go.Proofs.Ytnpiciabpgkiiad
namespace Go.Proofs.Ytnpiciabpgkiiad
open Go.RowKit
set_option linter.unusedVariables false
theorem fromI (x a b : Int) (w : World) : Calls Try.prog 102 #[.int .i64 x, .int .i64 a, .int .i64 b] w fun e w' => e = .returned (.bool (decide (a ≤ x ∧ x ≤ b))) ∧ w = w' := by
  by_cases h1 : a ≤ x
  · by_cases h2 : x ≤ b
    · rw [decide_eq_true ⟨h1, h2⟩]
      go_enter Try.func102, Try.ntmps102
      go_wp2
      go_ret
      exact ⟨rfl, rfl⟩
    · rw [decide_eq_false (fun h => h2 h.2)]
      go_enter Try.func102, Try.ntmps102
      go_wp2
      go_ret
      exact ⟨rfl, rfl⟩
  · rw [decide_eq_false (fun h => h1 h.1)]
    go_enter Try.func102, Try.ntmps102
    go_wp2
    go_ret
    exact ⟨rfl, rfl⟩
theorem chN_step (n k : Nat) (h : k ≤ n) : Int.tdiv ((chN n k : Int) * ((n : Int) - k)) ((k : Int) + 1) = (chN n (k + 1) : Nat) := by
  rw [show (n : Int) - k = ((n - k : Nat) : Int) by omega, ← Int.natCast_mul, Int.tdiv_eq_ediv_of_nonneg (by omega)]
  rfl
theorem chS_step (n k i : Nat) (h : k ≤ n) : Int.tdiv ((chS n k i : Int) * ((n : Int) - k + ((i : Int) + 1))) ((i : Int) + 1) = (chS n k (i + 1) : Nat) := by
  rw [show (n : Int) - k + ((i : Int) + 1) = ((n - k + (i + 1) : Nat) : Int) by omega, ← Int.natCast_mul, Int.tdiv_eq_ediv_of_nonneg (by omega)]
  rfl
set_option maxRecDepth 100000 in
set_option maxHeartbeats 1000000 in
theorem chooseC (n k : Nat) (w : World) (hn : n ≤ 30) (hk : k ≤ n) : Calls Try.prog 114 #[.int .i64 n, .int .i64 k] w fun e w' => e = .returned (.int .i64 (chN n k)) ∧ w = w' := by
  have CB := Lib.hid (fun i (hi : i < 31) => chN_bd n (by omega) i hi)
  have CS := Lib.hid (fun i (hi : i ≤ n) => chN_step n i hi)
  have C0 := Lib.hid (show chN n 0 = 1 from rfl)
  go_enter Try.func114, Try.ntmps114
  go_wp2_with fail
  go_loopg [5, 8] k (fun gg s t wr => ∃ i : Nat, i ≤ k ∧ k - i ≤ gg ∧ s = .int .i64 (chN n i) ∧ t = .int .i64 i ∧ w = wr)
  case atStart => exact ⟨0, Nat.zero_le _, by omega, rfl, rfl, rfl⟩
  case round =>
    obtain ⟨i, hi, hgg, rfl, rfl, rfl⟩ := hrel
    have cb := CB.out i (by omega)
    have cs := CS.out i (by omega)
    by_cases hlt : i < k
    · have pb : (chN n i) * (n - i) ≤ 155117520 * 30 := Nat.mul_le_mul cb (by omega)
      have e1 : ((chN n i : Nat) : Int) * ((n : Int) - i) = ((chN n i * (n - i) : Nat) : Int) := by rw [Int.natCast_mul]; congr 1; omega
      obtain ⟨p, hp⟩ : ∃ p : Int, p = ((chN n i : Nat) : Int) * ((n : Int) - i) := ⟨_, rfl⟩
      have pb2 : 0 ≤ p ∧ p ≤ 4653525600 := by omega
      have W1 : IntKind.i64.wrap (((chN n i : Nat) : Int) * ((n : Int) - i)) = p := by rw [← hp]; exact IntWalk.i64_in _ (by omega)
      rw [← hp] at cs
      obtain ⟨d, hd⟩ : ∃ d : Int, d = ((chN n (i + 1) : Nat) : Int) := ⟨_, rfl⟩
      have db := CB.out (i + 1) (by omega)
      have db2 : 0 ≤ d ∧ d ≤ 155117520 := by omega
      have HD := Lib.hid hd
      rw [← hd] at cs
      clear pb e1 hp hd db
      go_wp2_with fail
      go_roundg (k - (i + 1))
      case rel => exact ⟨i + 1, by omega, by omega, by rw [← HD.out], by go_num, rfl⟩
      case measure => omega
    · have hik : i = k := by omega
      subst hik
      go_wp2_with fail
      go_ret
      exact ⟨rfl, rfl⟩
set_option maxRecDepth 100000 in
set_option maxHeartbeats 1000000 in
theorem chooseS (n k : Nat) (w : World) (hn : n ≤ 30) (hk : k ≤ n) : Calls Try.prog 111 #[.int .i64 n, .int .i64 k] w fun e w' => e = .returned (.int .i64 (chN n k)) ∧ w = w' := by
  have CB := Lib.hid (fun i (hi : i < 31) (h : i ≤ k) => chS_bd n (by omega) k (by omega) i hi h hk)
  have CS := Lib.hid (fun i => chS_step n k i hk)
  have C0 := Lib.hid (show chS n k 0 = 1 from rfl)
  have CE := Lib.hid (chS_eq n (by omega) k (by omega) hk)
  have IN := Lib.hid (inS_true k 0 n w (by omega))
  rw [← CE.out]
  go_enter Try.func111, Try.ntmps111
  go_wp2_with fail
  refine IN.out.mono ?_
  rintro e w1 ⟨rfl, rfl⟩
  go_wp2_with fail
  go_loopg [5, 6] k (fun gg s t wr => ∃ i : Nat, i ≤ k ∧ k - i ≤ gg ∧ s = .int .i64 (chS n k i) ∧ t = .int .i64 ((i : Int) + 1) ∧ w = wr)
  case atStart => exact ⟨0, Nat.zero_le _, by omega, rfl, rfl, rfl⟩
  case round =>
    obtain ⟨i, hi, hgg, rfl, rfl, rfl⟩ := hrel
    have cb := CB.out i (by omega) hi
    have cs := CS.out i
    by_cases hlt : i < k
    · have pb : (chS n k i) * (n - k + (i + 1)) ≤ 155117520 * 30 := Nat.mul_le_mul cb (by omega)
      have e1 : ((chS n k i : Nat) : Int) * ((n : Int) - k + ((i : Int) + 1)) = ((chS n k i * (n - k + (i + 1)) : Nat) : Int) := by rw [Int.natCast_mul]; congr 1; omega
      obtain ⟨p, hp⟩ : ∃ p : Int, p = ((chS n k i : Nat) : Int) * ((n : Int) - k + ((i : Int) + 1)) := ⟨_, rfl⟩
      have pb2 : 0 ≤ p ∧ p ≤ 4653525600 := by omega
      have W1 : IntKind.i64.wrap (((chS n k i : Nat) : Int) * ((n : Int) - k + ((i : Int) + 1))) = p := by rw [← hp]; exact IntWalk.i64_in _ (by omega)
      rw [← hp] at cs
      obtain ⟨d, hd⟩ : ∃ d : Int, d = ((chS n k (i + 1) : Nat) : Int) := ⟨_, rfl⟩
      have db := CB.out (i + 1) (by omega) (by omega)
      have db2 : 0 ≤ d ∧ d ≤ 155117520 := by omega
      have HD := Lib.hid hd
      rw [← hd] at cs
      have t1 : (i : Int) + 1 ≤ (k : Int) := by omega
      clear pb e1 hp hd db
      go_wp2_with fail
      go_roundg (k - (i + 1))
      case rel => exact ⟨i + 1, by omega, by omega, by rw [← HD.out], by go_num, rfl⟩
      case measure => omega
    · have hik : i = k := by omega
      subst hik
      have t1 : ¬ (i : Int) + 1 ≤ (i : Int) := by omega
      go_wp2_with fail
      go_ret
      exact ⟨rfl, rfl⟩
end Go.Proofs.Ytnpiciabpgkiiad
namespace Go.Proofs.Ytnpiciabpgkiiad
open Go.RowKit
set_option linter.unusedVariables false
def scV (n r : Int) : Value := if secOk n r = true then .tuple #[.agg #[.int .i64 (scN n.toNat r.toNat), .int .i64 (scD n.toNat r.toNat)], .bool true] else .tuple #[.agg #[.int .i64 0, .int .i64 0], .bool false]
theorem scV_form (n r : Int) : ∃ p q ok, scV n r = .tuple #[.agg #[.int .i64 p, .int .i64 q], .bool ok] := by
  unfold scV; split <;> exact ⟨_, _, _, rfl⟩
theorem keptV_yes {n d : Int} (h : isFr n d = true) : keptV n d = .tuple #[.agg #[.int .i64 n, .int .i64 d], .bool true] := by
  unfold keptV
  rw [isFr, Bool.and_eq_true] at h
  rw [if_pos h.1]
theorem addV_yes {n d m e p q : Int} (h1 : isFr n d = true) (h2 : isFr m e = true) (hp : p = cutN (n * e + m * d) (d * e)) (hq : q = cutD (n * e + m * d) (d * e)) (h3 : isFr p q = true) : addV n d m e = .tuple #[.agg #[.int .i64 p, .int .i64 q], .bool true] := by
  unfold addV
  rw [if_pos ⟨h1, h2⟩, ← hp, ← hq, keptV_yes h3]
set_option maxRecDepth 100000 in
theorem one_fr : ∀ k : Nat, k < 11 → 1 ≤ k → isFr (1 : Int) (k : Int) = true := by decide +kernel
/-- One more in the sum. -/
theorem hm_add {r j : Nat} (hr : 1 ≤ r) (h : r + j + 1 ≤ 10) : addV (hmP r j).1 (hmP r j).2 1 ((r + j : Nat) : Int) = .tuple #[.agg #[.int .i64 (hmP r (j + 1)).1, .int .i64 (hmP r (j + 1)).2], .bool true] :=
  addV_yes (hm_ok1 r (by omega) j (by omega) hr (by omega)) (one_fr (r + j) (by omega) (by omega)) rfl rfl (hm_ok1 r (by omega) (j + 1) (by omega) hr (by omega))
set_option maxRecDepth 100000 in
set_option maxHeartbeats 2000000 in
theorem secChI (n r : Int) (w : World) : Calls Try.prog 43 #[.int .i64 n, .int .i64 r] w (Gives (scV n r) w) := by
  have F := Lib.hid (fun w => fromI n 1 10 w)
  have G := Lib.hid (fun w => fromI r 0 (n - 1) w)
  have B0 := Lib.hid (bl_self w (.cells #[.int .i64 0, .int .i64 0] 39))
  have RC := Lib.hid (fun w3 b => rs_cells (w := w) (w3 := w3) b)
  have RF := Lib.hid (fun w3 x y b => rs_fin (w := w) (w3 := w3) (x := x) (y := y) b)
  by_cases h1 : 1 ≤ n ∧ n ≤ 10
  · rw [decide_eq_true h1] at F
    obtain ⟨h1a, h1b⟩ := h1
    by_cases h2 : 0 ≤ r ∧ r ≤ n - 1
    · rw [decide_eq_true h2] at G
      obtain ⟨N, rfl⟩ : ∃ N : Nat, n = N := ⟨n.toNat, by omega⟩
      obtain ⟨R, rfl⟩ : ∃ R : Nat, r = R := ⟨r.toNat, by omega⟩
      have hRN : R < N := by omega
      have hN : N < 11 := by omega
      rw [show scV N R = .tuple #[.agg #[.int .i64 (scN N R), .int .i64 (scD N R)], .bool true] from if_pos (by unfold secOk; rw [decide_eq_true ⟨h1a, h1b⟩, decide_eq_true h2]; rfl)]
      obtain ⟨so1, so2, so3⟩ := sc_ok N hN R (by omega) hRN
      have KY := Lib.hid (keptV_yes so1)
      by_cases hr0 : R = 0
      · subst hr0
        have so := sc_one N hN (by omega)
        have e1 : scN N 0 = 1 := if_pos rfl
        have e2 : scD N 0 = N := if_pos rfl
        have RD := Lib.hid (fun w => reduceI_any 1 N w (by omega) (by omega))
        rw [so.1, so.2, ← e1] at RD
        rw [← e2] at RD
        rw [KY.out] at RD
        rw [e1] at RD ⊢
        rw [e2] at RD ⊢
        clear so e1 e2 so1 so2 so3 KY h2 hRN hN
        obtain ⟨wa, hwa⟩ : ∃ wa, wa = w.alloc (.cells #[.int .i64 0, .int .i64 0] 39) := ⟨_, rfl⟩
        rw [← hwa] at B0 RC RF
        go_enter Try.func43, Try.ntmps43
        go_wp2_with fail
        rw [← hwa]
        clear hwa
        refine (F.out _).mono ?_
        rintro e w1 ⟨rfl, rfl⟩
        go_wp2_with fail
        refine (G.out _).mono ?_
        rintro e w2 ⟨rfl, rfl⟩
        go_wp2_with fail
        refine (RD.out _).mono ?_
        rintro e w3 ⟨rfl, b3⟩
        have B3 := Lib.hid b3
        clear b3
        obtain ⟨⟨x0, y0⟩, x1, y1⟩ := RC.out _ B3.out
        go_wp2_with fail
        refine bodyPost_ret (v := .tuple #[.agg #[.int .i64 1, .int .i64 N], .bool true]) (by simp [results, Try.results43, go_sem, x0, x1]) rfl ⟨rfl, ?_⟩
        exact RF.out _ _ _ B3.out
      · have hr1 : 1 ≤ R := by omega
        have e1 : scN N R = cutN ((R : Int) * (hmP R (N - R)).1) ((N : Int) * (hmP R (N - R)).2) := if_neg hr0
        have e2 : scD N R = cutD ((R : Int) * (hmP R (N - R)).1) ((N : Int) * (hmP R (N - R)).2) := if_neg hr0
        have hb := hm_ok2 R (by omega) (N - R) (by omega) hr1 (by omega)
        have hd := hm_ok3 R (by omega) (N - R) (by omega) hr1 (by omega)
        have m0 : 0 ≤ (R : Int) * (hmP R (N - R)).1 := Int.mul_nonneg (by omega) hb.1
        have m1 : (R : Int) * (hmP R (N - R)).1 ≤ 10 * 10000 := Int.mul_le_mul (by omega) hb.2 hb.1 (by omega)
        have m2 : 1 * 1 ≤ (N : Int) * (hmP R (N - R)).2 := Int.mul_le_mul (by omega) hd.1 (by omega) (by omega)
        have m3 : (N : Int) * (hmP R (N - R)).2 ≤ 10 * 2520 := Int.mul_le_mul (by omega) hd.2 (by omega) (by omega)
        have RD := Lib.hid (fun w => reduceI_any ((R : Int) * (hmP R (N - R)).1) ((N : Int) * (hmP R (N - R)).2) w (by omega) (by omega))
        rw [← e1, ← e2, KY.out] at RD
        have AD := Lib.hid (fun k (hk : k < N) (hk2 : R ≤ k) w => addI (hmP R (k - R)).1 (hmP R (k - R)).2 1 k w)
        have AH := Lib.hid (fun k (hk : k < N) (hk2 : R ≤ k) => show addV (hmP R (k - R)).1 (hmP R (k - R)).2 1 (k : Int) = .tuple #[.agg #[.int .i64 (hmP R (k + 1 - R)).1, .int .i64 (hmP R (k + 1 - R)).2], .bool true] from by
          have := hm_add (r := R) (j := k - R) hr1 (by omega)
          rw [show R + (k - R) = k by omega, show k - R + 1 = k + 1 - R by omega] at this
          exact this)
        have Q0 : Hid ((hmP R (R - R)).1 = 0 ∧ (hmP R (R - R)).2 = 1) := Lib.hid (by rw [Nat.sub_self]; exact ⟨rfl, rfl⟩)
        generalize scN N R = SN at *
        generalize scD N R = SD at *
        obtain ⟨H, hH⟩ : ∃ H : Nat → Int × Int, H = fun k => hmP R (k - R) := ⟨_, rfl⟩
        have hH2 : ∀ k, hmP R (k - R) = H k := fun k => by rw [hH]
        simp only [hH2] at AD AH Q0 RD hb hd m0 m1 m2 m3
        have WR1 : IntKind.i64.wrap ((R : Int) * (H N).1) = (R : Int) * (H N).1 := IntWalk.i64_in _ (by omega)
        have WR2 : IntKind.i64.wrap ((N : Int) * (H N).2) = (N : Int) * (H N).2 := IntWalk.i64_in _ (by omega)
        have zR : ((R : Int) == 0) = false := by simp; omega
        clear hH hH2 e1 e2 so1 so2 so3 KY h2 hN hr0
        obtain ⟨wa, hwa⟩ : ∃ wa, wa = w.alloc (.cells #[.int .i64 0, .int .i64 0] 39) := ⟨_, rfl⟩
        rw [← hwa] at B0 RC RF
        have QN := Lib.hid (QBox.new wa 0 1)
        have BN := Lib.hid ((Below.refl wa.heap.size wa).alloc (Nat.le_refl _) (.cells #[.int .i64 0, .int .i64 1] 39))
        go_enter Try.func43, Try.ntmps43
        go_wp2_with fail
        rw [← hwa]
        clear hwa
        refine (F.out _).mono ?_
        rintro e w1 ⟨rfl, rfl⟩
        go_wp2_with fail
        refine (G.out _).mono ?_
        rintro e w2 ⟨rfl, rfl⟩
        go_wp2_with fail
        go_loopg [7] N (fun gg i wr => ∃ k : Nat, R ≤ k ∧ k ≤ N ∧ N - k ≤ gg ∧ i = .int .i64 k ∧ Hid (QBox wr wa.heap.size (H k).1 (H k).2) ∧ Hid (Below wa.heap.size wa wr))
        case atStart => exact ⟨R, Nat.le_refl _, by omega, by omega, rfl, by rw [Q0.out.1, Q0.out.2]; exact QN, BN⟩
        case round =>
          clear QN BN
          obtain ⟨k, hk0, hk, hgg, rfl, HQ, HB⟩ := hrel
          obtain ⟨⟨x0, x1⟩, y0, y1⟩ := HQ.out.cells
          by_cases hlt : k < N
          · have i1 : (k : Int) < (N : Int) := by omega
            have A1 := Lib.hid (AD.out k hlt hk0)
            rw [AH.out k hlt hk0] at A1
            have HQ0 := Lib.hid HQ.out
            obtain ⟨a, ha⟩ : ∃ a, a = H k := ⟨_, rfl⟩
            obtain ⟨b, hb2⟩ : ∃ b, b = H (k + 1) := ⟨_, rfl⟩
            have HB2 := Lib.hid hb2
            rw [← ha] at A1 x0 x1 HQ0
            rw [← hb2] at A1
            clear ha hb2 HQ
            go_wp2_with fail
            refine (A1.out _).mono ?_
            rintro e w2 ⟨rfl, b2⟩
            have s2 := b2.size
            have hlt2 := HQ0.out.lt
            have HQ1 := Lib.hid (HQ0.out.below b2 hlt2)
            obtain ⟨⟨z0, z1⟩, t0, t1⟩ := HQ1.out.cells
            have HB1 := Lib.hid (bl_then HB.out b2)
            clear b2 x0 x1 y0 y1 HB HQ0
            go_wp2_with fail
            go_roundg (N - (k + 1))
            case rel => exact ⟨k + 1, by omega, by omega, by omega, by go_num, by rw [← HB2.out]; exact Lib.hid (HQ1.out.st _ _), Lib.hid (bl_st HB1.out (Nat.le_refl _) _ _)⟩
            case measure => omega
          · have hkN : k = N := by omega
            rw [hkN] at x0 x1
            have i1 : ¬ (k : Int) < (N : Int) := by omega
            clear hkN
            go_wp2_with fail
            refine (RD.out _).mono ?_
            rintro e w3 ⟨rfl, b3⟩
            have B3 := Lib.hid (bl_then B0.out ((bl_then HB.out b3)))
            clear b3
            obtain ⟨⟨z0, t0⟩, z1, t1⟩ := RC.out _ B3.out
            go_wp2_with fail
            refine bodyPost_ret (v := .tuple #[.agg #[.int .i64 SN, .int .i64 SD], .bool true]) (by simp [results, Try.results43, go_sem, z0, z1]) rfl ⟨rfl, ?_⟩
            exact RF.out _ _ _ B3.out
    · rw [decide_eq_false h2] at G
      rw [show scV n r = .tuple #[.agg #[.int .i64 0, .int .i64 0], .bool false] from if_neg (by unfold secOk; rw [decide_eq_false h2, Bool.and_false]; decide)]
      clear h2
      go_enter Try.func43, Try.ntmps43
      go_wp2_with fail
      refine (F.out _).mono ?_
      rintro e w1 ⟨rfl, rfl⟩
      go_wp2_with fail
      refine (G.out _).mono ?_
      rintro e w2 ⟨rfl, rfl⟩
      go_wp2_with fail
      refine bodyPost_ret (v := .tuple #[.agg #[.int .i64 0, .int .i64 0], .bool false]) (by simp [results, Try.results43, go_sem]) rfl ⟨rfl, ?_⟩
      first | exact RF.out _ _ _ B0.out | exact (Below.refl w.heap.size w).alloc (Nat.le_refl _) _
  · rw [decide_eq_false h1] at F
    rw [show scV n r = .tuple #[.agg #[.int .i64 0, .int .i64 0], .bool false] from if_neg (by unfold secOk; rw [decide_eq_false h1, Bool.false_and]; decide)]
    clear h1
    go_enter Try.func43, Try.ntmps43
    go_wp2_with fail
    refine (F.out _).mono ?_
    rintro e w1 ⟨rfl, rfl⟩
    go_wp2_with fail
    refine bodyPost_ret (v := .tuple #[.agg #[.int .i64 0, .int .i64 0], .bool false]) (by simp [results, Try.results43, go_sem]) rfl ⟨rfl, ?_⟩
    first | exact RF.out _ _ _ B0.out | exact (Below.refl w.heap.size w).alloc (Nat.le_refl _) _
end Go.Proofs.Ytnpiciabpgkiiad
namespace Go.Proofs.Ytnpiciabpgkiiad
open Go.RowKit
set_option linter.unusedVariables false
theorem hm_cut {r j : Nat} (hr : 1 ≤ r) (h : r + j + 1 ≤ 10) (w : World) :
    Calls Try.prog 140 #[.agg #[.int .i64 (hmP r j).1, .int .i64 (hmP r j).2], .agg #[.int .i64 1, .int .i64 ((r + j : Nat) : Int)]] w (Gives (.agg #[.int .i64 (hmP r (j + 1)).1, .int .i64 (hmP r (j + 1)).2]) w) := by
  have a := hm_ok2 r (by omega) j (by omega) hr (by omega)
  have b := hm_ok3 r (by omega) j (by omega) hr (by omega)
  exact addS _ _ _ _ w (by omega) (by omega) (by omega) (by omega)
set_option maxRecDepth 100000 in
set_option maxHeartbeats 2000000 in
theorem chanceSS (N R : Nat) (w : World) (hN : N ≤ 10) (hRN : R < N) : Calls Try.prog 134 #[.int .i64 N, .int .i64 R] w (Gives (.agg #[.int .i64 (scN N R), .int .i64 (scD N R)]) w) := by
  have B0 := Lib.hid (bl_self w (.cells #[.int .i64 0, .int .i64 0] 39))
  have RC := Lib.hid (fun w3 b => rs_cells (w := w) (w3 := w3) b)
  have RF := Lib.hid (fun w3 x y b => rs_fin (w := w) (w3 := w3) (x := x) (y := y) b)
  by_cases hr0 : R = 0
  · subst hr0
    rw [show scN N 0 = 1 from if_pos rfl, show scD N 0 = N from if_pos rfl]
    obtain ⟨wa, hwa⟩ : ∃ wa, wa = w.alloc (.cells #[.int .i64 0, .int .i64 0] 39) := ⟨_, rfl⟩
    rw [← hwa] at B0 RC RF
    obtain ⟨⟨x0, y0⟩, x1, y1⟩ := RC.out _ B0.out
    go_enter Try.func134, Try.ntmps134
    go_wp2_with fail
    first
      | (rw [← hwa]; clear hwa; go_wp2_with fail; refine bodyPost_ret (v := .agg #[.int .i64 1, .int .i64 N]) (by simp [results, Try.results134, go_sem, x0, x1]) rfl ⟨rfl, ?_⟩; exact RF.out _ _ _ B0.out)
      | (refine bodyPost_ret (v := .agg #[.int .i64 1, .int .i64 N]) (by simp [results, Try.results134, go_sem]) rfl ⟨rfl, ?_⟩; exact (Below.refl w.heap.size w).alloc (Nat.le_refl _) _)
  · have hr1 : 1 ≤ R := by omega
    have hb := hm_ok2 R (by omega) (N - R) (by omega) hr1 (by omega)
    have hd := hm_ok3 R (by omega) (N - R) (by omega) hr1 (by omega)
    have hf := ((isFr_iff _ _).1 (hm_ok1 R (by omega) (N - R) (by omega) hr1 (by omega))).2
    have r1 := sc_rn1 N (by omega) R (by omega) hr1 hRN
    have r2 := sc_rn2 N (by omega) R (by omega) hr1 hRN
    have r3 := sc_rn3 N (by omega) R (by omega) hr1 hRN
    have st := sc_times N (by omega) R (by omega) hr1 hRN
    have CU := Lib.hid (fun w => cutS (R : Int) (N : Int) w (by omega) (by omega))
    have TM := Lib.hid (fun w => timesS (hmP R (N - R)).1 (hmP R (N - R)).2 (cutN (R : Int) (N : Int)) (cutD (R : Int) (N : Int)) w (by omega) (by omega) (by omega) (by omega) hf r1)
    rw [st.1, st.2] at TM
    have AD := Lib.hid (fun k (hk : k < N) (hk2 : R ≤ k) (w : World) => show Calls Try.prog 140 #[.agg #[.int .i64 (hmP R (k - R)).1, .int .i64 (hmP R (k - R)).2], .agg #[.int .i64 1, .int .i64 (k : Int)]] w (Gives (.agg #[.int .i64 (hmP R (k + 1 - R)).1, .int .i64 (hmP R (k + 1 - R)).2]) w) from by
      have := hm_cut (r := R) (j := k - R) hr1 (by omega) w
      rw [show R + (k - R) = k by omega, show k - R + 1 = k + 1 - R by omega] at this
      exact this)
    have Q0 : Hid ((hmP R (R - R)).1 = 0 ∧ (hmP R (R - R)).2 = 1) := Lib.hid (by rw [Nat.sub_self]; exact ⟨rfl, rfl⟩)
    generalize scN N R = SN at *
    generalize scD N R = SD at *
    generalize cutN (R : Int) (N : Int) = CN at *
    generalize cutD (R : Int) (N : Int) = CD at *
    obtain ⟨H, hH⟩ : ∃ H : Nat → Int × Int, H = fun k => hmP R (k - R) := ⟨_, rfl⟩
    have hH2 : ∀ k, hmP R (k - R) = H k := fun k => by rw [hH]
    simp only [hH2] at AD Q0 TM
    have zR : ((R : Int) == 0) = false := by simp; omega
    clear hH hH2 hb hd hf r1 r2 r3 st hr0
    obtain ⟨wa, hwa⟩ : ∃ wa, wa = w.alloc (.cells #[.int .i64 0, .int .i64 0] 39) := ⟨_, rfl⟩
    rw [← hwa] at B0 RC RF
    have GT := Lib.hid (show wa.heap.size = w.heap.size + 1 by rw [hwa]; simp)
    have QN := QBox.new wa 0 1
    rw [GT.out] at QN
    have QN := Lib.hid QN
    have BN := Lib.hid ((Below.refl wa.heap.size wa).alloc (Nat.le_refl _) (.cells #[.int .i64 0, .int .i64 1] 39))
    go_enter Try.func134, Try.ntmps134
    go_wp2_with fail
    rw [← hwa]
    clear hwa
    go_wp2_with fail
    go_loopg [6] N (fun gg i wr => ∃ k : Nat, R ≤ k ∧ k ≤ N ∧ N - k ≤ gg ∧ i = .int .i64 k ∧ Hid (QBox wr (w.heap.size + 1) (H k).1 (H k).2) ∧ Hid (Below wa.heap.size wa wr))
    case atStart => exact ⟨R, Nat.le_refl _, by omega, by omega, rfl, by rw [Q0.out.1, Q0.out.2]; exact QN, BN⟩
    case round =>
      clear QN BN
      obtain ⟨k, hk0, hk, hgg, rfl, HQ, HB⟩ := hrel
      obtain ⟨⟨x0, x1⟩, y0, y1⟩ := HQ.out.cells
      by_cases hlt : k < N
      · have i1 : (k : Int) < (N : Int) := by omega
        have A1 := Lib.hid (AD.out k hlt hk0)
        have HQ0 := Lib.hid HQ.out
        obtain ⟨a, ha⟩ : ∃ a, a = H k := ⟨_, rfl⟩
        obtain ⟨b, hb2⟩ : ∃ b, b = H (k + 1) := ⟨_, rfl⟩
        have HB2 := Lib.hid hb2
        rw [← ha] at A1 x0 x1 HQ0
        rw [← hb2] at A1
        clear ha hb2 HQ
        go_wp2_with fail
        refine (A1.out _).mono ?_
        rintro e w2 ⟨rfl, b2⟩
        have s2 := b2.size
        have hlt2 := HQ0.out.lt
        have HQ1 := Lib.hid (HQ0.out.below b2 hlt2)
        obtain ⟨⟨z0, z1⟩, t0, t1⟩ := HQ1.out.cells
        have HB1 := Lib.hid (bl_then HB.out b2)
        clear b2 x0 x1 y0 y1 HB HQ0
        go_wp2_with fail
        go_roundg (N - (k + 1))
        case rel => exact ⟨k + 1, by omega, by omega, by omega, by go_num, by rw [← HB2.out]; exact Lib.hid (HQ1.out.st _ _), Lib.hid (bl_st HB1.out (Nat.le_of_eq GT.out) _ _)⟩
        case measure => omega
      · have hkN : k = N := by omega
        rw [hkN] at x0 x1 HQ
        have i1 : ¬ (k : Int) < (N : Int) := by omega
        have hgR : w.heap.size + 1 ≠ w.heap.size := by omega
        obtain ⟨a, ha⟩ : ∃ a, a = H N := ⟨_, rfl⟩
        rw [← ha] at x0 x1 HQ TM
        clear hkN ha y0 y1
        go_wp2_with fail
        go_region_held3 (fun w' => w'.cell? ⟨w.heap.size + 1, 0, none⟩ = some (.int .i64 a.1) ∧ w'.cell? ⟨w.heap.size + 1, 1, none⟩ = some (.int .i64 a.2))
          (first | exact ⟨x0, x1⟩ | exact ⟨z0, z1⟩ | exact ⟨u0, u1⟩ | exact ⟨(far_2 hgR).trans u0, (far_2 hgR).trans u1⟩ | go_keep)
          (first
            | (go_at_call 125; (with_reducible refine (CU.out _).mono ?_); rintro e w8 ⟨rfl, b8⟩; (have hb8 := un_drew b8); (have HB8 := Lib.hid (bl_then HB.out hb8)); (have HQ8 := Lib.hid (HQ.out.below hb8 HQ.out.lt)); (obtain ⟨⟨z0, z1⟩, _, _⟩ := HQ8.out.cells); clear b8 hb8)
            | (go_at_call 141; (with_reducible refine (TM.out _).mono ?_); rintro e w9 ⟨rfl, b9⟩; (have HB9 := Lib.hid (bl_then B0.out (bl_then HB8.out b9))); (have HQ9 := Lib.hid (HQ8.out.below b9 HQ8.out.lt)); (obtain ⟨⟨u0, u1⟩, _, _⟩ := HQ9.out.cells); (obtain ⟨⟨c0, f0⟩, c1, f1⟩ := RC.out _ HB9.out); clear b9))
        all_goals
          go_wp2_with fail
          refine bodyPost_ret (v := .agg #[.int .i64 SN, .int .i64 SD]) (by simp [results, Try.results134, go_sem, *]) rfl ⟨rfl, ?_⟩
          exact RF.out _ _ _ HB9.out
theorem peopleS (n : Int) (w : World) : Calls Try.prog 133 #[.int .i64 n] w fun e w' => e = .returned (.bool (decide (1 ≤ n ∧ n ≤ 10))) ∧ w = w' := by
  have I := Lib.hid (fun w => inS n 1 10 w)
  generalize decide (1 ≤ n ∧ n ≤ 10) = bb at *
  go_enter Try.func133, Try.ntmps133
  go_wp2_with fail
  refine (I.out _).mono ?_
  rintro e w1 ⟨rfl, rfl⟩
  go_wp2_with fail
  go_ret
  exact ⟨rfl, rfl⟩
set_option maxRecDepth 100000 in
set_option maxHeartbeats 2000000 in
theorem secChS (n r : Int) (w : World) : Calls Try.prog 44 #[.int .i64 n, .int .i64 r] w (Gives (scV n r) w) := by
  have F := Lib.hid (fun w => peopleS n w)
  have G := Lib.hid (fun w => inS r 0 (n - 1) w)
  have B0 := Lib.hid (bl_self w (.cells #[.int .i64 0, .int .i64 0] 39))
  have RC := Lib.hid (fun w3 b => rs_cells (w := w) (w3 := w3) b)
  have RF := Lib.hid (fun w3 x y b => rs_fin (w := w) (w3 := w3) (x := x) (y := y) b)
  by_cases h1 : 1 ≤ n ∧ n ≤ 10
  · rw [decide_eq_true h1] at F
    obtain ⟨h1a, h1b⟩ := h1
    by_cases h2 : 0 ≤ r ∧ r ≤ n - 1
    · rw [decide_eq_true h2] at G
      obtain ⟨N, rfl⟩ : ∃ N : Nat, n = N := ⟨n.toNat, by omega⟩
      obtain ⟨R, rfl⟩ : ∃ R : Nat, r = R := ⟨r.toNat, by omega⟩
      have hRN : R < N := by omega
      have hN : N < 11 := by omega
      rw [show scV N R = .tuple #[.agg #[.int .i64 (scN N R), .int .i64 (scD N R)], .bool true] from if_pos (by unfold secOk; rw [decide_eq_true ⟨h1a, h1b⟩, decide_eq_true h2]; rfl)]
      obtain ⟨so1, so2, so3⟩ := sc_ok N hN R (by omega) hRN
      have CH := Lib.hid (fun w => chanceSS N R w (by omega) hRN)
      have KP := Lib.hid (fun w => keptS_yes (scN N R) (scD N R) w so1)
      generalize scN N R = SN at *
      generalize scD N R = SD at *
      clear so1 so2 so3 hN hRN h2
      go_enter Try.func44, Try.ntmps44
      go_wp2_with fail
      refine (F.out _).mono ?_
      rintro e w1 ⟨rfl, rfl⟩
      go_wp2_with fail
      refine (G.out _).mono ?_
      rintro e w2 ⟨rfl, rfl⟩
      go_wp2_with fail
      refine (CH.out _).mono ?_
      rintro e w3 ⟨rfl, b3⟩
      have B3 := Lib.hid (bl_then B0.out b3)
      clear b3
      go_wp2_with fail
      refine (KP.out _).mono ?_
      rintro e w4 ⟨rfl, b4⟩
      have B4 := Lib.hid (bl_then B3.out b4)
      clear b4
      obtain ⟨⟨x0, y0⟩, x1, y1⟩ := RC.out _ B4.out
      go_wp2_with fail
      refine bodyPost_ret (v := .tuple #[.agg #[.int .i64 SN, .int .i64 SD], .bool true]) (by simp [results, Try.results44, go_sem, x0, x1]) rfl ⟨rfl, ?_⟩
      exact RF.out _ _ _ B4.out
    · rw [decide_eq_false h2] at G
      rw [show scV n r = .tuple #[.agg #[.int .i64 0, .int .i64 0], .bool false] from if_neg (by unfold secOk; rw [decide_eq_false h2, Bool.and_false]; decide)]
      clear h2
      go_enter Try.func44, Try.ntmps44
      go_wp2_with fail
      refine (F.out _).mono ?_
      rintro e w1 ⟨rfl, rfl⟩
      go_wp2_with fail
      refine (G.out _).mono ?_
      rintro e w2 ⟨rfl, rfl⟩
      go_wp2_with fail
      refine bodyPost_ret (v := .tuple #[.agg #[.int .i64 0, .int .i64 0], .bool false]) (by simp [results, Try.results44, go_sem]) rfl ⟨rfl, ?_⟩
      first | exact RF.out _ _ _ B0.out | exact (Below.refl w.heap.size w).alloc (Nat.le_refl _) _
  · rw [decide_eq_false h1] at F
    rw [show scV n r = .tuple #[.agg #[.int .i64 0, .int .i64 0], .bool false] from if_neg (by unfold secOk; rw [decide_eq_false h1, Bool.false_and]; decide)]
    clear h1
    go_enter Try.func44, Try.ntmps44
    go_wp2_with fail
    refine (F.out _).mono ?_
    rintro e w1 ⟨rfl, rfl⟩
    go_wp2_with fail
    refine bodyPost_ret (v := .tuple #[.agg #[.int .i64 0, .int .i64 0], .bool false]) (by simp [results, Try.results44, go_sem]) rfl ⟨rfl, ?_⟩
    first | exact RF.out _ _ _ B0.out | exact (Below.refl w.heap.size w).alloc (Nat.le_refl _) _
end Go.Proofs.Ytnpiciabpgkiiad
namespace Go.Proofs.Ytnpiciabpgkiiad
open Go.RowKit
set_option linter.unusedVariables false
def sbV (n : Int) : Value := if decide (1 ≤ n ∧ n ≤ 10) = true then .tuple #[.int .i64 (sbT n.toNat n.toNat : Nat), .bool true] else .tuple #[.int .i64 0, .bool false]
theorem sbV_form (n : Int) : ∃ r ok, sbV n = .tuple #[.int .i64 r, .bool ok] := by
  unfold sbV; split <;> exact ⟨_, _, rfl⟩
theorem scV_nat {N R : Nat} (hN : 1 ≤ N ∧ N ≤ 10) (hR : R < N) : scV N R = .tuple #[.agg #[.int .i64 (scN N R), .int .i64 (scD N R)], .bool true] :=
  if_pos (by unfold secOk; rw [decide_eq_true (by omega), decide_eq_true (by omega)]; rfl)
theorem cmp_nat {N R Q : Nat} (hN : N ≤ 10) (hR : R < N) (hQ : Q < N) : cmpV (scN N R) (scD N R) (scN N Q) (scD N Q) = .tuple #[.int .i64 (ordI (scN N R * scD N Q) (scN N Q * scD N R)), .bool true] :=
  if_pos ⟨(sc_ok N (by omega) R (by omega) hR).1, (sc_ok N (by omega) Q (by omega) hQ).1⟩
theorem sb_step_yes {N k : Nat} (h : 0 < ordI (scN N k * scD N (sbT N k)) (scN N (sbT N k) * scD N k)) : sbT N (k + 1) = k := by
  unfold ordI at h
  split at h
  · omega
  · split at h
    · next h2 => simp only [sbT]; rw [if_pos h2]
    · omega
theorem sb_step_no {N k : Nat} (h : ¬ 0 < ordI (scN N k * scD N (sbT N k)) (scN N (sbT N k) * scD N k)) : sbT N (k + 1) = sbT N k := by
  unfold ordI at h
  simp only [sbT]
  rw [if_neg]
  intro h2
  rw [if_neg (by omega), if_pos h2] at h
  omega
set_option maxRecDepth 100000 in
set_option maxHeartbeats 2000000 in
theorem secBestI (n : Int) (w : World) : Calls Try.prog 45 #[.int .i64 n] w (Gives (sbV n) w) := by
  by_cases h1 : 1 ≤ n ∧ n ≤ 10
  · obtain ⟨N, rfl⟩ : ∃ N : Nat, n = N := ⟨n.toNat, by omega⟩
    have hN : 1 ≤ N ∧ N ≤ 10 := by omega
    rw [show sbV N = .tuple #[.int .i64 (sbT N N : Nat), .bool true] from if_pos (decide_eq_true h1)]
    have CH := Lib.hid (fun (R : Nat) (hR : R < N) w => show Calls Try.prog 43 #[.int .i64 N, .int .i64 R] w (Gives (.tuple #[.agg #[.int .i64 (scN N R), .int .i64 (scD N R)], .bool true]) w) from by rw [← scV_nat hN hR]; exact secChI N R w)
    have CP := Lib.hid (fun (R Q : Nat) (hR : R < N) (hQ : Q < N) w => show Calls Try.prog 135 #[.agg #[.int .i64 (scN N R), .int .i64 (scD N R)], .agg #[.int .i64 (scN N Q), .int .i64 (scD N Q)]] w (Gives (.tuple #[.int .i64 (ordI (scN N R * scD N Q) (scN N Q * scD N R)), .bool true]) w) from by rw [← cmp_nat hN.2 hR hQ]; exact cmpI _ _ _ _ w)
    have LT := Lib.hid (fun k (hk : k ≤ N) => sb_lt N (by omega) k (by omega) hN.1 hk)
    have YS := Lib.hid (fun k h => sb_step_yes (N := N) (k := k) h)
    have NS := Lib.hid (fun k h => sb_step_no (N := N) (k := k) h)
    have S1 := Lib.hid (sb_one N)
    have C0 := Lib.hid (fun w => show Calls Try.prog 43 #[.int .i64 N, .int .i64 0] w (Gives (.tuple #[.agg #[.int .i64 (scN N 0), .int .i64 (scD N 0)], .bool true]) w) from CH.out 0 (by omega) w)
    obtain ⟨p0, hp0⟩ : ∃ p0, p0 = scN N 0 := ⟨_, rfl⟩
    obtain ⟨q0, hq0⟩ : ∃ q0, q0 = scD N 0 := ⟨_, rfl⟩
    have E0 := Lib.hid (And.intro hp0 hq0)
    rw [← hp0, ← hq0] at C0
    clear hp0 hq0 h1
    have i10 : (N : Int) ≤ 10 := by omega
    go_enter Try.func45, Try.ntmps45
    go_wp2_with fail
    refine (C0.out _).mono ?_
    rintro e w1 ⟨rfl, b1⟩
    have B1 := Lib.hid b1
    have Q1 := Lib.hid (QBox.new w1 p0 q0)
    have A1 := Lib.hid ((Below.refl w1.heap.size w1).alloc (Nat.le_refl _) (.cells #[.int .i64 p0, .int .i64 q0] 39))
    clear b1
    go_wp2_with fail
    go_loopg [6, 7] N (fun gg s i wr => ∃ k : Nat, 1 ≤ k ∧ k ≤ N ∧ N - k ≤ gg ∧ i = .int .i64 k ∧ s = .int .i64 (sbT N k : Nat) ∧ Hid (QBox wr w1.heap.size (scN N (sbT N k)) (scD N (sbT N k))) ∧ Hid (Below w1.heap.size w1 wr))
    case atStart => exact ⟨1, Nat.le_refl _, by omega, by omega, rfl, by rw [S1.out]; rfl, by rw [S1.out, ← E0.out.1, ← E0.out.2]; exact Q1, A1⟩
    case round =>
      clear Q1 A1 E0
      obtain ⟨k, hk0, hk, hgg, rfl, rfl, HQ, HB⟩ := hrel
      by_cases hlt : k < N
      · have i1 : (k : Int) < (N : Int) := by omega
        have hsb := LT.out k hk
        have C1 := Lib.hid (CH.out k hlt)
        have P1 := Lib.hid (CP.out k (sbT N k) hlt hsb)
        have Y1 := Lib.hid (YS.out k)
        have N1 := Lib.hid (NS.out k)
        obtain ⟨sb, hsbE⟩ : ∃ sb, sb = sbT N k := ⟨_, rfl⟩
        rw [← hsbE] at HQ P1 Y1 N1 hsb ⊢
        obtain ⟨o, ho⟩ : ∃ o, o = ordI (scN N k * scD N sb) (scN N sb * scD N k) := ⟨_, rfl⟩
        rw [← ho] at P1 Y1 N1
        obtain ⟨pk, hpk⟩ : ∃ pk, pk = scN N k := ⟨_, rfl⟩
        obtain ⟨qk, hqk⟩ : ∃ qk, qk = scD N k := ⟨_, rfl⟩
        obtain ⟨pb, hpb⟩ : ∃ pb, pb = scN N sb := ⟨_, rfl⟩
        obtain ⟨qb, hqb⟩ : ∃ qb, qb = scD N sb := ⟨_, rfl⟩
        have EB := Lib.hid (And.intro hpb hqb)
        have EK := Lib.hid (And.intro hpk hqk)
        rw [← hpk, ← hqk] at C1
        rw [← hpk, ← hqk, ← hpb, ← hqb] at P1
        rw [← hpb, ← hqb] at HQ
        clear hsbE ho hpk hqk hpb hqb
        by_cases ho : 0 < o
        · have N2 := Lib.hid (Y1.out (by omega))
          clear Y1 N1
          go_wp2_with fail
          refine (C1.out _).mono ?_
          rintro e w2 ⟨rfl, b2⟩
          have HQ2 := Lib.hid (HQ.out.below b2 HQ.out.lt)
          have HB2 := Lib.hid (bl_then HB.out b2)
          have W2 := (Below.refl w2.heap.size w2).alloc (Nat.le_refl _) (.cells #[.int .i64 pk, .int .i64 qk] 39)
          have HQ3 := Lib.hid (HQ2.out.below W2 HQ2.out.lt)
          have HK3 := Lib.hid (QBox.new w2 pk qk)
          have HB3 := Lib.hid (HB2.out.alloc HB2.out.size (.cells #[.int .i64 pk, .int .i64 qk] 39))
          obtain ⟨w3, hw3⟩ : ∃ w3, w3 = w2.alloc (.cells #[.int .i64 pk, .int .i64 qk] 39) := ⟨_, rfl⟩
          rw [← hw3] at HQ3 HK3 HB3
          obtain ⟨⟨x0, x1⟩, y0, y1⟩ := HQ2.out.cells
          have lt2 := HQ2.out.lt
          have hne := Lib.hid (show w2.heap.size ≠ w1.heap.size by have := HQ2.out.lt; omega)
          clear b2 HQ HB HB2 W2
          go_wp2_with fail
          rw [← hw3]
          clear hw3
          refine (P1.out _).mono ?_
          rintro e w4 ⟨rfl, b4⟩
          have HQ4 := Lib.hid (HQ3.out.below b4 HQ3.out.lt)
          have HK4 := Lib.hid (HK3.out.below b4 HK3.out.lt)
          have HB4 := Lib.hid (bl_then HB3.out b4)
          clear b4 x0 x1 y0 y1 HQ2 HQ3 HK3 HB3
          obtain ⟨⟨x0, x1⟩, y0, y1⟩ := HQ4.out.cells
          obtain ⟨⟨u0, u1⟩, v0, v1⟩ := HK4.out.cells
          go_wp2_with fail
          go_region
          go_wp2_with fail
          go_roundg (N - (k + 1))
          case rel => exact ⟨k + 1, by omega, by omega, by omega, by go_num, by rw [N2.out], by rw [N2.out, ← EK.out.1, ← EK.out.2]; exact Lib.hid (HQ4.out.st _ _), Lib.hid (below_drew (bl_st HB4.out (Nat.le_refl _) _ _))⟩
          case measure => omega
        · have N2 := Lib.hid (N1.out (by omega))
          clear Y1 N1
          go_wp2_with fail
          refine (C1.out _).mono ?_
          rintro e w2 ⟨rfl, b2⟩
          have HQ2 := Lib.hid (HQ.out.below b2 HQ.out.lt)
          have HB2 := Lib.hid (bl_then HB.out b2)
          have W2 := (Below.refl w2.heap.size w2).alloc (Nat.le_refl _) (.cells #[.int .i64 pk, .int .i64 qk] 39)
          have HQ3 := Lib.hid (HQ2.out.below W2 HQ2.out.lt)
          have HK3 := Lib.hid (QBox.new w2 pk qk)
          have HB3 := Lib.hid (HB2.out.alloc HB2.out.size (.cells #[.int .i64 pk, .int .i64 qk] 39))
          obtain ⟨w3, hw3⟩ : ∃ w3, w3 = w2.alloc (.cells #[.int .i64 pk, .int .i64 qk] 39) := ⟨_, rfl⟩
          rw [← hw3] at HQ3 HK3 HB3
          obtain ⟨⟨x0, x1⟩, y0, y1⟩ := HQ2.out.cells
          have lt2 := HQ2.out.lt
          clear b2 HQ HB HB2 W2
          go_wp2_with fail
          rw [← hw3]
          clear hw3
          refine (P1.out _).mono ?_
          rintro e w4 ⟨rfl, b4⟩
          have HQ4 := Lib.hid (HQ3.out.below b4 HQ3.out.lt)
          have HB4 := Lib.hid (bl_then HB3.out b4)
          clear b4 x0 x1 y0 y1 HQ2 HQ3 HK3 HB3
          go_wp2_with fail
          go_roundg (N - (k + 1))
          case rel => exact ⟨k + 1, by omega, by omega, by omega, by go_num, by rw [N2.out], by rw [N2.out, ← EB.out.1, ← EB.out.2]; exact HQ4, HB4⟩
          case measure => omega
      · have hkN : k = N := by omega
        have i1 : ¬ (k : Int) < (N : Int) := by omega
        have FIN := Lib.hid (show sbT N k = sbT N N by rw [hkN])
        have BF := Lib.hid (bl_then B1.out HB.out)
        clear hkN
        go_wp2_with fail
        go_ret2
        exact ⟨by rw [FIN.out]; rfl, BF.out⟩
  · rw [show sbV n = .tuple #[.int .i64 0, .bool false] from if_neg (by rw [decide_eq_false h1]; decide)]
    have C0 := Lib.hid (fun w => secChI n 0 w)
    rw [show scV n 0 = .tuple #[.agg #[.int .i64 0, .int .i64 0], .bool false] from if_neg (by unfold secOk; rw [decide_eq_false h1, Bool.false_and]; decide)] at C0
    clear h1
    go_enter Try.func45, Try.ntmps45
    go_wp2_with fail
    refine (C0.out _).mono ?_
    rintro e w1 ⟨rfl, b1⟩
    have B1 := Lib.hid (b1.alloc b1.size (.cells #[.int .i64 0, .int .i64 0] 39))
    clear b1
    go_wp2_with fail
    go_ret2
    exact ⟨rfl, B1.out⟩
set_option maxRecDepth 100000 in
set_option maxHeartbeats 2000000 in
theorem secBestS (n : Int) (w : World) : Calls Try.prog 46 #[.int .i64 n] w (Gives (sbV n) w) := by
  have F := Lib.hid (fun w => peopleS n w)
  by_cases h1 : 1 ≤ n ∧ n ≤ 10
  · rw [decide_eq_true h1] at F
    obtain ⟨N, rfl⟩ : ∃ N : Nat, n = N := ⟨n.toNat, by omega⟩
    have hN : 1 ≤ N ∧ N ≤ 10 := by omega
    rw [show sbV N = .tuple #[.int .i64 (sbT N N : Nat), .bool true] from if_pos (decide_eq_true h1)]
    have CH := Lib.hid (fun (R : Nat) (hR : R < N) w => chanceSS N R w hN.2 hR)
    have LS := Lib.hid (fun (R Q : Nat) (hR : R < N) (hQ : Q < N) w => lessS (scN N R) (scD N R) (scN N Q) (scD N Q) w (by have := sc_ok N (by omega) R (by omega) hR; omega) (by have := sc_ok N (by omega) R (by omega) hR; omega) (by have := sc_ok N (by omega) Q (by omega) hQ; omega) (by have := sc_ok N (by omega) Q (by omega) hQ; omega))
    have LT := Lib.hid (fun k (hk : k ≤ N) => sb_lt N (by omega) k (by omega) hN.1 hk)
    have ST := Lib.hid (fun k => show sbT N (k + 1) = if scN N (sbT N k) * scD N k < scN N k * scD N (sbT N k) then k else sbT N k from rfl)
    have S1 := Lib.hid (sb_one N)
    have i10 : (N : Int) ≤ 10 := by omega
    clear h1
    go_enter Try.func46, Try.ntmps46
    go_wp2_with fail
    refine (F.out _).mono ?_
    rintro e w1 ⟨rfl, rfl⟩
    go_wp2_with fail
    go_loopg [4, 5] N (fun gg s i wr => ∃ k : Nat, 1 ≤ k ∧ k ≤ N ∧ N - k ≤ gg ∧ i = .int .i64 k ∧ s = .int .i64 (sbT N k : Nat) ∧ Hid (Below w.heap.size w wr))
    case atStart => exact ⟨1, Nat.le_refl _, by omega, by omega, rfl, by rw [S1.out]; rfl, Lib.hid (Below.refl _ _)⟩
    case round =>
      obtain ⟨k, hk0, hk, hgg, rfl, rfl, HB⟩ := hrel
      by_cases hlt : k < N
      · have i1 : (k : Int) < (N : Int) := by omega
        have hsb := LT.out k hk
        have C1 := Lib.hid (CH.out (sbT N k) hsb)
        have C2 := Lib.hid (CH.out k hlt)
        have P1 := Lib.hid (LS.out (sbT N k) k hsb hlt)
        have T1 := Lib.hid (ST.out k)
        by_cases ho : scN N (sbT N k) * scD N k < scN N k * scD N (sbT N k)
        · have N2 := Lib.hid (show sbT N (k + 1) = k by rw [T1.out, if_pos ho])
          rw [decide_eq_true ho] at P1
          obtain ⟨sb, hsbE⟩ : ∃ sb, sb = sbT N k := ⟨_, rfl⟩
          rw [← hsbE] at C1 P1 ⊢
          generalize scN N sb = pb at *
          generalize scD N sb = qb at *
          generalize scN N k = pk at *
          generalize scD N k = qk at *
          clear hsbE ho T1 hsb
          go_wp2_with fail
          refine (C1.out _).mono ?_
          rintro e w2 ⟨rfl, b2⟩
          have HB2 := Lib.hid (bl_then HB.out b2)
          clear b2
          go_wp2_with fail
          refine (C2.out _).mono ?_
          rintro e w3 ⟨rfl, b3⟩
          have HB3 := Lib.hid (bl_then HB2.out b3)
          clear b3
          go_wp2_with fail
          refine (P1.out _).mono ?_
          rintro e w4 ⟨rfl, b4⟩
          have HB4 := Lib.hid (bl_then HB3.out b4)
          clear b4 HB HB2 HB3
          go_wp2_with fail
          go_roundg (N - (k + 1))
          case rel => exact ⟨k + 1, by omega, by omega, by omega, by go_num, by rw [N2.out], HB4⟩
          case measure => omega
        · have N2 := Lib.hid (show sbT N (k + 1) = sbT N k by rw [T1.out, if_neg ho])
          rw [decide_eq_false ho] at P1
          obtain ⟨sb, hsbE⟩ : ∃ sb, sb = sbT N k := ⟨_, rfl⟩
          rw [← hsbE] at C1 P1 N2 ⊢
          generalize scN N sb = pb at *
          generalize scD N sb = qb at *
          generalize scN N k = pk at *
          generalize scD N k = qk at *
          clear hsbE ho T1 hsb
          go_wp2_with fail
          refine (C1.out _).mono ?_
          rintro e w2 ⟨rfl, b2⟩
          have HB2 := Lib.hid (bl_then HB.out b2)
          clear b2
          go_wp2_with fail
          refine (C2.out _).mono ?_
          rintro e w3 ⟨rfl, b3⟩
          have HB3 := Lib.hid (bl_then HB2.out b3)
          clear b3
          go_wp2_with fail
          refine (P1.out _).mono ?_
          rintro e w4 ⟨rfl, b4⟩
          have HB4 := Lib.hid (bl_then HB3.out b4)
          clear b4 HB HB2 HB3
          go_wp2_with fail
          go_roundg (N - (k + 1))
          case rel => exact ⟨k + 1, by omega, by omega, by omega, by go_num, by rw [N2.out], HB4⟩
          case measure => omega
      · have hkN : k = N := by omega
        have i1 : ¬ (k : Int) < (N : Int) := by omega
        have FIN := Lib.hid (show sbT N k = sbT N N by rw [hkN])
        clear hkN
        go_wp2_with fail
        go_ret2
        exact ⟨by rw [FIN.out]; rfl, HB.out⟩
  · rw [decide_eq_false h1] at F
    rw [show sbV n = .tuple #[.int .i64 0, .bool false] from if_neg (by rw [decide_eq_false h1]; decide)]
    clear h1
    go_enter Try.func46, Try.ntmps46
    go_wp2_with fail
    refine (F.out _).mono ?_
    rintro e w1 ⟨rfl, rfl⟩
    go_wp2_with fail
    go_ret2
    exact ⟨rfl, Below.refl _ _⟩
end Go.Proofs.Ytnpiciabpgkiiad
namespace Go.Proofs.Ytnpiciabpgkiiad
set_option linter.unusedVariables false
def sV (n k : Nat) : Int × Int := qT1.v 1 n k 0
def sT (n k : Nat) : Int × Int := grt (cutN k n, cutD k n) (sV n k)
def sU (n k : Nat) : Int × Int := (cutN ((sT n k).1 * 1) ((sT n k).2 * k), cutD ((sT n k).1 * 1) ((sT n k).2 * k))
def sC (k : Nat) : Int × Int := (cutN ((k : Int) - 1) k, cutD ((k : Int) - 1) k)
def sW (n k : Nat) : Int × Int := (cutN ((sV n k).1 * (sC k).1) ((sV n k).2 * (sC k).2), cutD ((sV n k).1 * (sC k).1) ((sV n k).2 * (sC k).2))
theorem st0 : ∀ n : Nat, n < 11 → 1 ≤ n → sV n n = (0, 1) := by decide +kernel
theorem st1 : ∀ n : Nat, n < 11 → ∀ k : Nat, k < n + 1 → 1 ≤ k → (cutN ((sU n k).1 * (sW n k).2 + (sW n k).1 * (sU n k).2) ((sU n k).2 * (sW n k).2), cutD ((sU n k).1 * (sW n k).2 + (sW n k).1 * (sU n k).2) ((sU n k).2 * (sW n k).2)) = sV n (k - 1) := by decide +kernel
theorem st2 : ∀ n : Nat, n < 11 → 1 ≤ n → ∀ k : Nat, k < n + 1 → isFr (sV n k).1 (sV n k).2 = true := by decide +kernel
theorem st3 : ∀ n : Nat, n < 11 → ∀ k : Nat, k < n + 1 → 1 ≤ k → isFr (cutN (k : Int) n) (cutD (k : Int) n) = true := by decide +kernel
theorem st4 : ∀ n : Nat, n < 11 → ∀ k : Nat, k < n + 1 → 1 ≤ k → isFr (sU n k).1 (sU n k).2 = true := by decide +kernel
theorem st5 : ∀ k : Nat, k < 11 → 1 ≤ k → isFr (sC k).1 (sC k).2 = true := by decide +kernel
theorem st6 : ∀ n : Nat, n < 11 → ∀ k : Nat, k < n + 1 → 1 ≤ k → isFr (sW n k).1 (sW n k).2 = true := by decide +kernel
end Go.Proofs.Ytnpiciabpgkiiad
namespace Go.Proofs.Ytnpiciabpgkiiad
set_option linter.unusedVariables false
set_option maxRecDepth 100000 in
/-- The best rule's chance is the first of the table. -/
theorem sf_first : ∀ n : Nat, n < 11 → 1 ≤ n → sV n 0 = (scN n (sbT n n), scD n (sbT n n)) := by decide +kernel
set_option maxRecDepth 100000 in
/-- No rule has a greater chance than the best one. -/
theorem sf_best : ∀ n : Nat, n < 11 → ∀ r : Nat, r < n → ¬ scN n (sbT n n) * scD n r < scN n r * scD n (sbT n n) := by decide +kernel
set_option maxRecDepth 100000 in
theorem sf_low : ∀ n : Nat, n < 11 → 1 ≤ n → ¬ (rkN n 0).1 * 1 < 1 * (rkN n 0).2 := by decide +kernel
set_option maxRecDepth 100000 in
theorem sf_high : ∀ n : Nat, n < 11 → 1 ≤ n → ¬ ((n : Int) + 1) * (rkN n 0).2 < (rkN n 0).1 * 2 := by decide +kernel
set_option maxRecDepth 100000 in
theorem sf_exact : ∀ n : Nat, n < 8 → ∀ r : Nat, r < n → scN n r * facN n = Int.tdiv ((facN n : Int) * scN n r) (scD n r) * scD n r := by decide +kernel
theorem sf_wins {n r : Nat} (hn : n ≤ 7) (hr : r < n) : scN n r * facN n = (winsF n r n [] : Nat) * scD n r := by
  rw [← wins_eq hn hr]; exact sf_exact n (by omega) r hr
end Go.Proofs.Ytnpiciabpgkiiad
namespace Go.Proofs.Ytnpiciabpgkiiad
open Go.RowKit Go.Maps
set_option linter.unusedVariables false
theorem fromT (x a b : Int) (w : World) : Calls Try.prog 102 #[.int .i64 x, .int .i64 a, .int .i64 b] w fun e w' => e = .returned (.bool (decide (a ≤ x ∧ x ≤ b))) ∧ w = w' := by
  by_cases h1 : a ≤ x
  · by_cases h2 : x ≤ b
    · rw [decide_eq_true ⟨h1, h2⟩]
      go_enter Try.func102, Try.ntmps102
      go_wp2
      go_ret
      exact ⟨rfl, rfl⟩
    · rw [decide_eq_false (fun h => h2 h.2)]
      go_enter Try.func102, Try.ntmps102
      go_wp2
      go_ret
      exact ⟨rfl, rfl⟩
  · rw [decide_eq_false (fun h => h1 h.1)]
    go_enter Try.func102, Try.ntmps102
    go_wp2
    go_ret
    exact ⟨rfl, rfl⟩
def stA (n i : Nat) : Int := (qT1.v 1 n i 0).1
def stB (n i : Nat) : Int := (qT1.v 1 n i 0).2
def stLen (n : Int) : Nat := if 1 ≤ n ∧ n ≤ 10 then n.toNat + 1 else 0
def stL (n : Int) : List Int := if 1 ≤ n ∧ n ≤ 10 then prL (stA n.toNat) (stB n.toNat) (n.toNat + 1) else []
theorem stLen_le (n : Int) : stLen n ≤ 1048576 := by unfold stLen; split <;> omega
theorem OwnQ.bel {w w' : World} {lo hi n b : Nat} {v : Value} {fs : List Int} (h : OwnQ w lo hi v n fs) (ha : Alt b (b + 1) w w') (hb : b < lo) : OwnQ w' lo hi v n fs := h.alt ha (.inr (by omega))
set_option maxRecDepth 100000 in
set_option maxHeartbeats 4000000 in
theorem sectabI (n : Int) (w : World) : Calls Try.prog 47 #[.int .i64 n] w (NewQB (stLen n) (stL n) (decide (1 ≤ n ∧ n ≤ 10)) w) := by
  have F := Lib.hid (fun w => fromT n 1 10 w)
  by_cases h : 1 ≤ n ∧ n ≤ 10
  · rw [decide_eq_true h] at F ⊢
    obtain ⟨N, rfl⟩ : ∃ N : Nat, n = N := ⟨n.toNat, by omega⟩
    have hN : N < 11 := by omega
    have hN1 : 1 ≤ N := by omega
    have iN : (N : Int) ≤ 10 := h.2
    rw [show stLen N = N + 1 from if_pos h, show stL N = prL (stA N) (stB N) (N + 1) from if_pos h]
    have SE := Lib.hid (fun w => searchC 131 (.agg #[.int .i64 (N : Int)]) (GQ qT1 1 N) w)
    have BE : Hid (∀ b k m w, k < N + 1 → m ≤ k * 100000000000 → MapQ 128 w b m (GQ qT1 1 N) → Calls Try.prog 138 #[.agg #[.iface 131 (.agg #[.int .i64 N]), .map (some b)], .agg #[.int .i64 (k : Int), .int .i64 0]] w (QPost (.agg #[.int .i64 (stA N k), .int .i64 (stB N k)]) w b (m + 100000000000) (GQ qT1 1 N))) := Lib.hid (fun b k m w hk hm hM => by
      have hp := pow12 (d := N - k) (by omega)
      have hk' : k * 100000000000 ≤ 10 * 100000000000 := Nat.mul_le_mul_right _ (by omega)
      exact (bestC qT1 1 N _ _ (questBest hN1 (by omega)) b (N - k) k 0 m w (by omega) (Nat.zero_le _) hM (by unfold maxLen; omega)).mono (fun e w' h' => h'.mono (by omega)))
    have BD := Lib.hid (fun k (hk : k < N + 1) => fr_bd ((q1Ok hN1 (by omega : N ≤ 10)).fv (c := k) (r := 0) hk (by omega)))
    obtain ⟨i0, hif, hz0, hz1, hz2⟩ := info_parts pairInfo
    have HIF := Lib.hid hif
    clear h
    go_enter Try.func47, Try.ntmps47
    go_wp2_with fail
    refine (F.out _).mono ?_
    rintro e w1 ⟨rfl, rfl⟩
    go_wp2_with fail
    refine (SE.out _).mono ?_
    rintro e w2 ⟨b, rfl, hM, b2, hb⟩
    have B2 := Lib.hid b2
    have hb2 := hM.lt
    clear b2
    obtain ⟨w3, hw3⟩ : ∃ w3, w3 = w2.alloc (.cells #[.iface 131 (.agg #[.int .i64 N]), .map (some b)] 125) := ⟨_, rfl⟩
    have K3 : w3.heap[w2.heap.size]? = some (.cells #[.iface 131 (.agg #[.int .i64 N]), .map (some b)] 125 (0, 0)) := by rw [hw3]; exact alloc_heap w2 _
    have S3 : w3.heap.size = w2.heap.size + 1 := by rw [hw3]; simp
    have B3 : Below w.heap.size w w3 := by rw [hw3]; exact B2.out.alloc B2.out.size _
    have M3 : MapQ 128 w3 b 0 (GQ qT1 1 N) := by rw [hw3]; exact hM.next ((Below.refl _ _).alloc (Nat.le_refl _) _)
    obtain ⟨w4, hw4⟩ : ∃ w4, w4 = w3.alloc (.cells #[] 39) := ⟨_, rfl⟩
    have B34 : Below w3.heap.size w3 w4 := by rw [hw4]; exact (Below.refl _ _).alloc (Nat.le_refl _) _
    have O4 := Lib.hid (show OwnQ w4 w3.heap.size w4.heap.size (.slice (some ⟨w3.heap.size, 0, none⟩) 0 0) 0 [] by rw [hw4]; exact OwnQ.empty w3 _ (Nat.le_refl _))
    have B4 := Lib.hid (B3.trans (B34.mono B3.size))
    have M4 := Lib.hid (M3.next B34)
    have K4 := Lib.hid ((B34.block w2.heap.size (by omega)).trans K3)
    clear M3 B3 K3 hM
    go_upto_region 4 with fail
    rw [← hw3]
    clear hw3
    go_upto_region 5 with fail
    rw [← hw4]
    clear hw4
    rw [S3] at O4
    have ZS : Hid (∀ k, prL (stA N) (stB N) (k + 1) = prL (stA N) (stB N) k ++ [stA N k, stB N k]) := Lib.hid (fun k => rfl)
    have BDx : Hid (∀ k, k < N + 1 → InI64 (stA N k) ∧ InI64 (stB N k)) := Lib.hid (fun k hk => by
      have := BD.out k hk
      unfold InI64 stA stB; omega)
    have hbs : b < w2.heap.size + 1 := by omega
    have hb3 : b ≠ w2.heap.size := by omega
    clear BD B34 S3 hif
    go_wp2_with fail
    go_loopg [5, 18] (N + 1) (fun gg s i wr => ∃ k m' : Nat, k ≤ N + 1 ∧ N + 1 - k ≤ gg ∧ i = .int .i64 k ∧ m' ≤ k * 100000000000 ∧ Hid (OwnQ wr (w2.heap.size + 1) wr.heap.size s k (prL (stA N) (stB N) k)) ∧ Hid (MapQ 128 wr b m' (GQ qT1 1 N)) ∧ Hid (wr.heap[w2.heap.size]? = some (.cells #[.iface 131 (.agg #[.int .i64 N]), .map (some b)] 125 (0, 0))) ∧ Hid (Below w.heap.size w wr))
    case atStart => exact ⟨0, 0, by omega, by omega, rfl, by omega, O4, M4, K4, B4⟩
    case round =>
      clear O4 M4 K4 B4
      obtain ⟨k, m', hk, hgg, rfl, hm', HO, HM, HK, HB⟩ := hrel
      by_cases hlt : k < N + 1
      · have i1 : (k : Int) < (N : Int) + 1 := by omega
        have i2 : 0 ≤ (k : Int) := by omega
        have BEx := Lib.hid (BE.out b k m' wr hlt hm' HM.out)
        have IN := Lib.hid (BDx.out k hlt)
        have se := ZS.out k
        obtain ⟨x, hx⟩ : ∃ x, x = stA N k := ⟨_, rfl⟩
        obtain ⟨y, hy⟩ : ∃ y, y = stB N k := ⟨_, rfl⟩
        rw [← hx, ← hy] at BEx se IN
        obtain ⟨L, hL⟩ : ∃ L, L = prL (stA N) (stB N) k := ⟨_, rfl⟩
        rw [← hL] at HO se
        have SE' := Lib.hid se
        clear hx hy hL se
        have x0 := (cell_of_heap (o := 0) HK.out rfl).1
        have x1 := (cell_of_heap (o := 1) HK.out rfl).1
        go_wp2_with fail
        refine BEx.out.mono ?_
        rintro e w5 ⟨rfl, m5, hm5, hM5, al5⟩
        have hsb : w2.heap.size < wr.heap.size := (Array.getElem?_eq_some_iff.1 HK.out).1
        have HM5 := Lib.hid hM5
        have HO5 := Lib.hid ((HO.out.bel al5 hbs).wide al5.size (Nat.le_refl _))
        have HK5 := Lib.hid ((al5.block w2.heap.size hsb (by omega)).trans HK.out)
        have HB5 := Lib.hid (HB.out.trans ((al5.below (by omega)).mono hb))
        have hs5 : w2.heap.size + 1 ≤ w5.heap.size := by have := al5.size; omega
        clear al5 hM5 HO HM HK HB x0 x1
        have hown := HO5.out.row
        go_wp2_with (at_builtin; refine wpList_append_own_at _ rfl _ _ 50 rfl (w2.heap.size + 1) 39 i0 (.agg #[.int .i64 0, .int .i64 0]) 2 16 Try.underlying50 HIF.out hz0 hz1 hz2 rfl (by decide) _ k (L.map (.int .i64)) rfl (hown.alloc _) ⟨w5.heap.size, 0, none⟩ 1 1 [.int .i64 x, .int .i64 y] rfl rfl (cell_two_new _ _ _ _) (fun u hu => by simp at hu; rcases hu with rfl | rfl <;> rfl) (by unfold maxLen; omega) (by omega) (by simp; omega) ?_; intro v' w6 hown6 hgrow6 hnil6 hloc6)
        have D6 : Below (w2.heap.size + 1) w5 w6 := ((Below.refl (w2.heap.size + 1) w5).alloc hs5 (.cells #[.int .i64 x, .int .i64 y] 39)).grown hgrow6 (by simp; omega) (fun q hq => (hown.lt q hq).1)
        have own6 := Lib.hid (HO5.out.app IN.out.1 IN.out.2 hown6)
        have HM6 := Lib.hid (HM5.out.below D6 hbs)
        have HK6 := Lib.hid ((D6.block w2.heap.size (Nat.lt_succ_self _)).trans HK5.out)
        have HB6 := Lib.hid (HB5.out.trans (D6.mono (by have := B2.out.size; omega)))
        clear hown hown6 hgrow6 hnil6 hloc6 HO5 HM5 HK5 HB5 D6
        go_wp2_with fail
        go_roundg (N + 1 - (k + 1))
        case rel => exact ⟨k + 1, m5, by omega, by omega, by go_num, by omega, Lib.hid (by rw [SE'.out]; exact own6.out), HM6, HK6, HB6⟩
        case measure => omega
      · obtain rfl : k = N + 1 := by omega
        have FIN : Hid (∀ o, OwnQ wr (w2.heap.size + 1) wr.heap.size o (N + 1) (prL (stA N) (stB N) (N + 1)) → NewQB (N + 1) (prL (stA N) (stB N) (N + 1)) true w (.returned (.tuple #[o, .bool true])) wr) := Lib.hid (fun o ho => ⟨o, rfl, ho.low (by have := B2.out.size; omega), HB.out⟩)
        go_wp2
        go_ret2
        exact FIN.out _ HO.out
  · rw [decide_eq_false h] at F ⊢
    rw [show stLen n = 0 from if_neg h, show stL n = [] from if_neg h]
    clear h
    go_enter Try.func47, Try.ntmps47
    go_wp2_with fail
    refine (F.out _).mono ?_
    rintro e w1 ⟨rfl, rfl⟩
    go_wp2_with fail
    go_ret2
    exact newQ_empty (Below.refl _ _) rfl
end Go.Proofs.Ytnpiciabpgkiiad
namespace Go.Proofs.Ytnpiciabpgkiiad
open Go.RowKit
set_option linter.unusedVariables false
def sL (n k : Nat) : List Int := prL (fun i => (sV n (k + i)).1) (fun i => (sV n (k + i)).2) (n + 1 - k)
theorem prL_cons (A B : Nat → Int) (m : Nat) : prL A B (m + 1) = A 0 :: B 0 :: prL (fun i => A (i + 1)) (fun i => B (i + 1)) m := by
  induction m with
  | zero => rfl
  | succ m ih => rw [prL, ih]; rfl
theorem sL_last {n : Nat} (h : n < 11) (h1 : 1 ≤ n) : sL n n = [0, 1] := by
  unfold sL
  rw [show n + 1 - n = 1 by omega]
  show [(sV n (n + 0)).1, (sV n (n + 0)).2] = [0, 1]
  rw [Nat.add_zero, st0 n h h1]
theorem sL_step {n k : Nat} (h : 1 ≤ k) (hk : k ≤ n) : sL n (k - 1) = (sV n (k - 1)).1 :: (sV n (k - 1)).2 :: sL n k := by
  unfold sL
  rw [show n + 1 - (k - 1) = (n + 1 - k) + 1 by omega, prL_cons]
  simp only [Nat.add_zero]
  congr 2
  have e : ∀ i, k - 1 + (i + 1) = k + i := fun i => by omega
  simp only [e]
theorem sL_len (n k : Nat) : (sL n k).length = (n + 1 - k) * 2 := prL_len _ _ _
theorem sL_at {n k : Nat} (hk : k ≤ n) : (sL n k).getD 0 0 = (sV n k).1 ∧ (sL n k).getD 1 0 = (sV n k).2 := by
  have := prL_at (fun i => (sV n (k + i)).1) (fun i => (sV n (k + i)).2) (k := n + 1 - k) (j := 0) (by omega)
  unfold sL
  simpa using this
theorem sb_bd {n d : Int} (h : isFr n d = true) : ((-1000000000 ≤ n ∧ n ≤ 1000000000) ∧ (1 ≤ d ∧ d ≤ 1000000)) ∧ gI n d = 1 := by
  have := (isFr_iff n d).1 h
  exact ⟨by omega, this.2⟩
theorem OwnQ.one (w1 : World) (lo : Nat) {x y : Int} (h : lo ≤ w1.heap.size) (hx : InI64 x) (hy : InI64 y) : OwnQ (w1.alloc (.cells #[.int .i64 x, .int .i64 y] 39)) lo (w1.alloc (.cells #[.int .i64 x, .int .i64 y] 39)).heap.size (.slice (some ⟨w1.heap.size, 0, none⟩) 1 1) 1 [x, y] := by
  refine ⟨rfl, ⟨rfl, .inr ⟨w1.heap.size, 1, #[.int .i64 x, .int .i64 y], rfl, h, alloc_heap w1 _, Nat.le_refl _, by unfold maxLen; omega, rfl, rfl⟩⟩, ?_, Nat.le_refl _, fun z hz => ?_⟩
  · intro q hq
    simp [Value.ownBlock] at hq
    subst hq
    simp
  · simp at hz
    rcases hz with rfl | rfl
    · exact hx
    · exact hy
theorem OwnQ.pre {w3 : World} {lo m : Nat} {v' : Value} {fs : List Int} {x y : Int} (hl : fs.length = m * 2) (hf : ∀ z ∈ fs, InI64 z) (hx : InI64 x) (hy : InI64 y)
    (hown : w3.ownsRow lo 39 2 v' (1 + m) ([.int .i64 x, .int .i64 y] ++ fs.map (.int .i64))) : OwnQ w3 lo w3.heap.size v' (m + 1) (x :: y :: fs) := by
  rw [Nat.add_comm 1 m] at hown
  refine ⟨by simp; omega, hown, fun q hq => (hown.lt q hq).2, Nat.le_refl _, fun z hz => ?_⟩
  rcases List.mem_cons.1 hz with rfl | hz
  · exact hx
  · rcases List.mem_cons.1 hz with rfl | hz
    · exact hy
    · exact hf z hz
set_option maxRecDepth 100000 in
set_option maxHeartbeats 2000000 in
theorem greaterS7 (n d m e : Int) (w : World) (h1 : isFr n d = true) (h2 : isFr m e = true) :
    Calls Try.prog 139 #[.agg #[.int .i64 n, .int .i64 d], .agg #[.int .i64 m, .int .i64 e]] w (Gives (.agg #[.int .i64 (grt (n, d) (m, e)).1, .int .i64 (grt (n, d) (m, e)).2]) w) := by
  obtain ⟨⟨hn, hd⟩, _⟩ := sb_bd h1
  obtain ⟨⟨hm, he⟩, _⟩ := sb_bd h2
  have LS := Lib.hid (fun w => lessS n d m e w hn hd hm he)
  obtain ⟨wa, hwa⟩ : ∃ wa, wa = ((w.alloc (.cells #[.int .i64 n, .int .i64 d] 39)).alloc (.cells #[.int .i64 m, .int .i64 e] 39)).alloc (.cells #[.int .i64 0, .int .i64 0] 39) := ⟨_, rfl⟩
  have B3 : Below w.heap.size w wa := by rw [hwa]; exact (((Below.refl w.heap.size w).alloc (Nat.le_refl _) _).alloc (by simp) _).alloc (by simp; omega) _
  obtain ⟨k0, k1, k2⟩ := heap_three w (.cells #[.int .i64 n, .int .i64 d] 39) (.cells #[.int .i64 m, .int .i64 e] 39) (.cells #[.int .i64 0, .int .i64 0] 39)
  rw [← hwa] at k0 k1 k2
  have T0 := Lib.hid (show QBox wa w.heap.size n d from k0)
  have T1 := Lib.hid (show QBox wa (w.heap.size + 1) m e from k1)
  have T2 := Lib.hid (show QBox wa (w.heap.size + 1 + 1) 0 0 from k2)
  clear k0 k1 k2 hn hd hm he h1 h2
  obtain ⟨⟨x0, x1⟩, _, _⟩ := T0.out.cells
  obtain ⟨⟨y0, y1⟩, _, _⟩ := T1.out.cells
  unfold grt
  dsimp only
  by_cases hc : n * e < m * d
  · rw [if_pos hc]
    rw [decide_eq_true hc] at LS
    clear hc
    go_enter Try.func139, Try.ntmps139
    go_wp2_with fail
    rw [← hwa]
    clear hwa
    refine (LS.out _).mono ?_
    rintro e w1 ⟨rfl, b1⟩
    obtain ⟨⟨a0, a1⟩, _, _⟩ := (T1.out.below b1 T1.out.lt).cells
    obtain ⟨⟨c0, c1⟩, f0, f1⟩ := (T2.out.below b1 T2.out.lt).cells
    have HB := Lib.hid (bl_then B3 b1)
    clear b1 x0 x1 y0 y1
    go_wp2_with fail
    refine bodyPost_ret (v := .agg #[.int .i64 m, .int .i64 e]) (by simp [results, Try.results139, go_sem, c0, c1]) rfl ⟨rfl, ?_⟩
    exact bl_st HB.out (by omega) _ _
  · rw [if_neg hc]
    rw [decide_eq_false hc] at LS
    clear hc
    go_enter Try.func139, Try.ntmps139
    go_wp2_with fail
    rw [← hwa]
    clear hwa
    refine (LS.out _).mono ?_
    rintro e w1 ⟨rfl, b1⟩
    obtain ⟨⟨a0, a1⟩, _, _⟩ := (T0.out.below b1 T0.out.lt).cells
    obtain ⟨⟨c0, c1⟩, f0, f1⟩ := (T2.out.below b1 T2.out.lt).cells
    have HB := Lib.hid (bl_then B3 b1)
    clear b1 x0 x1 y0 y1
    go_wp2_with fail
    refine bodyPost_ret (v := .agg #[.int .i64 n, .int .i64 d]) (by simp [results, Try.results139, go_sem, c0, c1]) rfl ⟨rfl, ?_⟩
    exact bl_st HB.out (by omega) _ _
set_option maxRecDepth 100000 in
set_option maxHeartbeats 2000000 in
/-- A list of fractions is told. -/
theorem toldS (m : Nat) (fs : List Int) (v : Value) (lo hi : Nat) (w : World) (hm : m ≤ 100) (hv : OwnQ w lo hi v m fs) (hf : ∀ i, i < m → isFr (fs.getD (i * 2) 0) (fs.getD (i * 2 + 1) 0) = true) :
    Calls Try.prog 142 #[v] w (Gives (.tuple #[v, .bool true]) w) := by
  have HV := Lib.hid hv
  have HF := Lib.hid hf
  obtain ⟨p, cap, rfl, hO⟩ := hv.opened
  have HO := Lib.hid hO
  have hr := hv.room
  clear hf hO hv
  go_enter Try.func142, Try.ntmps142
  go_wp2_with fail
  go_loopg [4] m (fun gg i wr => ∃ k : Nat, k ≤ m ∧ m - k ≤ gg ∧ i = .int .i64 k ∧ Hid (Below w.heap.size w wr))
  case atStart => exact ⟨0, by omega, by omega, rfl, Lib.hid (Below.refl _ _)⟩
  case round =>
    obtain ⟨k, hk, hgg, rfl, HB⟩ := hrel
    by_cases hlt : k < m
    · have i1 : (k : Int) < (m : Int) := by omega
      have i2 : 0 ≤ (k : Int) := by omega
      obtain ⟨g, rfl, hg1, hg2, c0⟩ := HO.out (k * 2) (by omega)
      obtain ⟨g', hgg', _, _, c1⟩ := HO.out (k * 2 + 1) (by omega)
      obtain rfl : g = g' := by injection hgg' with h; injection h
      have c0' : wr.cell? ⟨g, k * 2, none⟩ = some (.int .i64 (fs.getD (k * 2) 0)) := (HB.out.cell (p := ⟨g, k * 2, none⟩) (show g < w.heap.size by omega)).trans c0
      have c1' : wr.cell? ⟨g, k * 2 + 1, none⟩ = some (.int .i64 (fs.getD (k * 2 + 1) 0)) := (HB.out.cell (p := ⟨g, k * 2 + 1, none⟩) (show g < w.heap.size by omega)).trans c1
      have FR := Lib.hid (fun w => fracS (fs.getD (k * 2) 0) (fs.getD (k * 2 + 1) 0) w)
      rw [HF.out k hlt] at FR
      generalize fs.getD (k * 2) 0 = x at *
      generalize fs.getD (k * 2 + 1) 0 = y at *
      clear c0 c1 hgg'
      go_wp2_with fail
      refine (FR.out _).mono ?_
      rintro e w1 ⟨rfl, b1⟩
      have HB1 := Lib.hid (bl_then HB.out b1)
      clear b1 c0' c1'
      go_wp2_with fail
      go_roundg (m - (k + 1))
      case rel => exact ⟨k + 1, by omega, by omega, by go_num, HB1⟩
      case measure => omega
    · obtain rfl : k = m := by omega
      go_wp2_with fail
      go_ret2
      exact ⟨rfl, HB.out⟩
theorem stG {n k : Nat} (hn : n < 11) (hk : k < n + 1) (h1 : 1 ≤ k) (w : World) : Calls Try.prog 139 #[.agg #[.int .i64 (cutN (k : Int) n), .int .i64 (cutD (k : Int) n)], .agg #[.int .i64 (sV n k).1, .int .i64 (sV n k).2]] w (Gives (.agg #[.int .i64 (sT n k).1, .int .i64 (sT n k).2]) w) :=
  greaterS7 _ _ _ _ w (st3 n hn k hk h1) (st2 n hn (by omega) k hk)
theorem sT_fr {n k : Nat} (hn : n < 11) (hk : k < n + 1) (h1 : 1 ≤ k) : isFr (sT n k).1 (sT n k).2 = true := grt_fr (st3 n hn k hk h1) (st2 n hn (by omega) k hk)
theorem stM1 {n k : Nat} (hn : n < 11) (hk : k < n + 1) (h1 : 1 ≤ k) (w : World) : Calls Try.prog 141 #[.agg #[.int .i64 (sT n k).1, .int .i64 (sT n k).2], .agg #[.int .i64 1, .int .i64 k]] w (Gives (.agg #[.int .i64 (sU n k).1, .int .i64 (sU n k).2]) w) := by
  have a := sb_bd (sT_fr hn hk h1)
  exact timesS (sT n k).1 (sT n k).2 1 (k : Int) w a.1.1 a.1.2 (by omega) (by omega) a.2 (by unfold gI; simp)
theorem stM2 {n k : Nat} (hn : n < 11) (hk : k < n + 1) (h1 : 1 ≤ k) (w : World) : Calls Try.prog 141 #[.agg #[.int .i64 (sV n k).1, .int .i64 (sV n k).2], .agg #[.int .i64 (sC k).1, .int .i64 (sC k).2]] w (Gives (.agg #[.int .i64 (sW n k).1, .int .i64 (sW n k).2]) w) := by
  have a := sb_bd (st2 n hn (by omega) k hk)
  have c := sb_bd (st5 k (by omega) h1)
  exact timesS _ _ _ _ w a.1.1 a.1.2 c.1.1 c.1.2 a.2 c.2
theorem stAd {n k : Nat} (hn : n < 11) (hk : k < n + 1) (h1 : 1 ≤ k) (w : World) : Calls Try.prog 140 #[.agg #[.int .i64 (sU n k).1, .int .i64 (sU n k).2], .agg #[.int .i64 (sW n k).1, .int .i64 (sW n k).2]] w (Gives (.agg #[.int .i64 (sV n (k - 1)).1, .int .i64 (sV n (k - 1)).2]) w) := by
  have a := sb_bd (st4 n hn k hk h1)
  have c := sb_bd (st6 n hn k hk h1)
  have A := addS (sU n k).1 (sU n k).2 (sW n k).1 (sW n k).2 w a.1.1 a.1.2 c.1.1 c.1.2
  rw [← st1 n hn k hk h1]
  exact A
def stLenM (n : Int) : Nat := if 1 ≤ n ∧ n ≤ 10 then n.toNat + 1 else 0
def stLM (n : Int) : List Int := if 1 ≤ n ∧ n ≤ 10 then sL n.toNat 0 else []
theorem peopleT (n : Int) (w : World) : Calls Try.prog 133 #[.int .i64 n] w fun e w' => e = .returned (.bool (decide (1 ≤ n ∧ n ≤ 10))) ∧ w = w' := by
  have I := Lib.hid (fun w => inS n 1 10 w)
  generalize decide (1 ≤ n ∧ n ≤ 10) = bb at *
  go_enter Try.func133, Try.ntmps133
  go_wp2_with fail
  refine (I.out _).mono ?_
  rintro e w1 ⟨rfl, rfl⟩
  go_wp2_with fail
  go_ret
  exact ⟨rfl, rfl⟩
set_option maxRecDepth 100000 in
set_option maxHeartbeats 8000000 in
theorem sectabS (n : Int) (w : World) : Calls Try.prog 48 #[.int .i64 n] w (NewQB (stLenM n) (stLM n) (decide (1 ≤ n ∧ n ≤ 10)) w) := by
  have F := Lib.hid (fun w => peopleT n w)
  by_cases h : 1 ≤ n ∧ n ≤ 10
  · rw [decide_eq_true h] at F ⊢
    obtain ⟨N, rfl⟩ : ∃ N : Nat, n = N := ⟨n.toNat, by omega⟩
    have hN : N < 11 := by omega
    have hN1 : 1 ≤ N := by omega
    have iN : (N : Int) ≤ 10 := h.2
    rw [show stLenM N = N + 1 from if_pos h, show stLM N = sL N 0 from if_pos h]
    have SL0 := Lib.hid (sL_last hN hN1)
    obtain ⟨i0, hif, hz0, hz1, hz2⟩ := info_parts pairInfo
    have HIF := Lib.hid hif
    have in0 : InI64 0 := by unfold InI64; omega
    have in1 : InI64 1 := by unfold InI64; omega
    obtain ⟨wa, hwa⟩ : ∃ wa, wa = w.alloc (.cells #[.int .i64 0, .int .i64 1] 39) := ⟨_, rfl⟩
    have O1 := Lib.hid (show OwnQ wa w.heap.size wa.heap.size (.slice (some ⟨w.heap.size, 0, none⟩) 1 1) 1 [0, 1] by rw [hwa]; exact OwnQ.one w _ (Nat.le_refl _) in0 in1)
    have BA := Lib.hid (show Below w.heap.size w wa by rw [hwa]; exact (Below.refl w.heap.size w).alloc (Nat.le_refl _) _)
    clear h hif in0 in1
    go_enter Try.func48, Try.ntmps48
    go_wp2_with fail
    refine (F.out _).mono ?_
    rintro e w1 ⟨rfl, rfl⟩
    go_wp2_with fail
    rw [← hwa]
    clear hwa
    go_loopg [4, 5] N (fun gg s i wr => ∃ k : Nat, k ≤ N ∧ k ≤ gg ∧ i = .int .i64 k ∧ Hid (OwnQ wr w.heap.size wr.heap.size s (N + 1 - k) (sL N k)) ∧ Hid (Below w.heap.size w wr))
    case atStart => exact ⟨N, Nat.le_refl _, Nat.le_refl _, rfl, by rw [SL0.out, show N + 1 - N = 1 by omega]; exact O1, BA⟩
    case round =>
      clear O1 BA
      obtain ⟨k, hk, hgg, rfl, HO, HB⟩ := hrel
      obtain ⟨wq, rfl⟩ : ∃ wq : World, wq = wr := ⟨_, rfl⟩
      by_cases hk1 : 1 ≤ k
      · have i1 : 1 ≤ (k : Int) := by omega
        have i2 : (k : Int) ≤ (N : Int) := by omega
        obtain ⟨g, cap, rfl, hg1, hg2⟩ := HO.out.shape (by omega)
        have CU := Lib.hid (fun w => cutS (k : Int) (N : Int) w (by omega) (by omega))
        have CK := Lib.hid (fun w => cutS ((k : Int) - 1) (k : Int) w (by omega) (by omega))
        have GR := Lib.hid (fun w => stG hN (by omega : k < N + 1) hk1 w)
        have M1 := Lib.hid (fun w => stM1 hN (by omega : k < N + 1) hk1 w)
        have M2 := Lib.hid (fun w => stM2 hN (by omega : k < N + 1) hk1 w)
        have AD := Lib.hid (fun w => stAd hN (by omega : k < N + 1) hk1 w)
        unfold sC at M2
        dsimp only at M2
        have x0 := HO.out.cellGet (j := 0) (by omega)
        have x1 := HO.out.cellGet (j := 1) (by omega)
        rw [(sL_at hk).1] at x0
        rw [(sL_at hk).2] at x1
        have bd0 := sb_bd (st2 N hN hN1 (k - 1) (by omega))
        have STEP := Lib.hid (sL_step hk1 hk)
        obtain ⟨x, hx⟩ : ∃ x, x = (sV N k).1 := ⟨_, rfl⟩
        obtain ⟨y, hy⟩ : ∃ y, y = (sV N k).2 := ⟨_, rfl⟩
        obtain ⟨t1, ht1⟩ : ∃ t1, t1 = (sT N k).1 := ⟨_, rfl⟩
        obtain ⟨t2, ht2⟩ : ∃ t2, t2 = (sT N k).2 := ⟨_, rfl⟩
        obtain ⟨z1, hz1'⟩ : ∃ z1, z1 = (sV N (k - 1)).1 := ⟨_, rfl⟩
        obtain ⟨z2, hz2'⟩ : ∃ z2, z2 = (sV N (k - 1)).2 := ⟨_, rfl⟩
        rw [← hx, ← hy, ← ht1, ← ht2] at GR
        rw [← ht1, ← ht2] at M1
        rw [← hx, ← hy] at M2
        rw [← hz1', ← hz2'] at AD bd0 STEP
        rw [← hx] at x0
        rw [← hy] at x1
        have IN : Hid (InI64 z1 ∧ InI64 z2) := Lib.hid (by unfold InI64; omega)
        clear hx hy ht1 ht2 hz1' hz2' bd0
        generalize cutN (k : Int) (N : Int) = cn at *
        generalize cutD (k : Int) (N : Int) = cd at *
        generalize cutN ((k : Int) - 1) (k : Int) = en at *
        generalize cutD ((k : Int) - 1) (k : Int) = ed at *
        have X0 := Lib.hid x0
        have X1 := Lib.hid x1
        have WK : IntKind.i64.wrap ((k : Int) - 1) = (k : Int) - 1 := IntWalk.i64_in _ (by omega)
        obtain ⟨m, hm⟩ : ∃ m, m = N + 1 - k := ⟨_, rfl⟩
        rw [← hm] at HO ⊢
        have lp1 : 0 < m := by omega
        have lp2 : (0 : Int) < (m : Int) := by omega
        have lp3 : m ≤ 10 := by omega
        have HM := Lib.hid hm
        clear hm
        go_upto_region 7 with fail
        go_cut [6] (fun s9 wx => ∃ g, s9 = .pointer (some ⟨g, 0, none⟩) ∧ wq.heap.size ≤ g ∧ Hid (Below wq.heap.size wq wx) ∧ Hid (QBox wx g t1 t2))
        case first =>
          have HD : Hid (Below wq.heap.size wq wq.drew) := Lib.hid (below_drew (Below.refl _ _))
          have HDA : Hid (Below wq.heap.size wq (wq.alloc (.cells #[.int .i64 0, .int .i64 0] 39)).drew) := Lib.hid (below_drew ((Below.refl wq.heap.size wq).alloc (Nat.le_refl _) _))
          have KC : Hid (∀ w', Hid (Below wq.heap.size wq w') → w'.cell? ⟨g, 0, none⟩ = some (.int .i64 x) ∧ w'.cell? ⟨g, 1, none⟩ = some (.int .i64 y)) := Lib.hid (fun w' h => ⟨(h.out.cell (p := ⟨g, 0, none⟩) hg2).trans X0.out, (h.out.cell (p := ⟨g, 1, none⟩) hg2).trans X1.out⟩)
          have KA : Hid (∀ (w' : World) (o : Obj), Hid (Below wq.heap.size wq w') → Hid (Below wq.heap.size wq (w'.alloc o))) := Lib.hid (fun w' o h => Lib.hid (h.out.alloc h.out.size o))
          have KN : Hid (∀ (w' w'' : World), Hid (Below wq.heap.size wq w') → Below w'.heap.size w' w'' → Hid (Below wq.heap.size wq w'')) := Lib.hid (fun w' w'' h k => Lib.hid (h.out.trans (k.mono h.out.size)))
          have KS : Hid (∀ (w' : World) (g : Nat) (x y : Value), Hid (Below wq.heap.size wq w') → wq.heap.size ≤ g → Hid (Below wq.heap.size wq ((w'.setCell ⟨g, 0, none⟩ x).setCell ⟨g, 1, none⟩ y))) := Lib.hid (fun w' g x y h hg => Lib.hid (bl_st h.out hg x y))
          have HZ0 : Hid (QBox (wq.alloc (.cells #[.int .i64 0, .int .i64 0] 39)).drew wq.heap.size 0 0) := Lib.hid (QBox.new wq 0 0)
          have hle0 : wq.heap.size ≤ wq.heap.size := Nat.le_refl _
          go_region_held3 (fun w' => w'.cell? ⟨g, 0, none⟩ = some (.int .i64 x) ∧ w'.cell? ⟨g, 1, none⟩ = some (.int .i64 y))
            (first | exact KC.out _ HD | exact KC.out _ HDA | exact KC.out _ (by assumption) | exact KC.out _ (KA.out _ _ (by assumption)) | exact KC.out _ (KS.out _ _ _ _ (by assumption) (by assumption)) | go_keep)
            (first
              | (go_at_call 125; (with_reducible refine (CU.out _).mono ?_); rintro e v1 ⟨rfl, b1⟩; (have D1 := KN.out _ _ (by first | exact HD | exact HDA | assumption | exact KA.out _ _ (by assumption)) b1); (have hle1 := D1.out.size); (first | (have HZ1 := Lib.hid (QBox.below HZ0.out b1 HZ0.out.lt)) | (have HZ1 := Lib.hid (QBox.below (QBox.new _ 0 0) b1 (by simp))) | skip); clear b1)
              | (go_at_call 139; (with_reducible refine (GR.out _).mono ?_); rintro e v2 ⟨rfl, b2⟩; (have D2 := KN.out _ _ (by first | assumption | exact KA.out _ _ (by assumption)) b2); (have hle2 := D2.out.size); (first | (have HZ2 := Lib.hid (QBox.below HZ1.out b2 HZ1.out.lt); (obtain ⟨⟨c0, c1⟩, f0, f1⟩ := HZ2.out.cells)) | (have HZ2 := Lib.hid (QBox.below (QBox.new _ 0 0) b2 (by simp)); (obtain ⟨⟨c0, c1⟩, f0, f1⟩ := HZ2.out.cells)) | skip); clear b2))
          all_goals
            go_wp2_with fail
            go_meet
            first
              | exact ⟨_, rfl, hle0, Lib.hid (KS.out _ _ _ _ D2 hle0).out, Lib.hid (HZ2.out.st _ _)⟩
              | exact ⟨_, rfl, hle1, Lib.hid (KS.out _ _ _ _ D2 hle1).out, Lib.hid (HZ2.out.st _ _)⟩
              | exact ⟨_, rfl, hle2, Lib.hid (KA.out _ _ D2).out, Lib.hid (QBox.new _ _ _)⟩
              | (trace_state; sorry)
        obtain ⟨gT, rfl, hgT, HBq, HQT⟩ := hcut
        obtain ⟨w3, rfl⟩ : ∃ w3 : World, w3 = wc := ⟨_, rfl⟩
        clear x0 x1
        have hg3 : g < w3.heap.size := by have := HBq.out.size; omega
        have hgT3 := HQT.out.lt
        have X3 := Lib.hid ((HBq.out.cell (p := ⟨g, 0, none⟩) hg2).trans X0.out)
        have X4 := Lib.hid ((HBq.out.cell (p := ⟨g, 1, none⟩) hg2).trans X1.out)
        have x0 := X3.out
        have x1 := X4.out
        obtain ⟨⟨y0, y1⟩, _, _⟩ := HQT.out.cells
        have Y3 := Lib.hid y0
        have Y4 := Lib.hid y1
        go_upto_region 8 with fail
        go_cut [7] (fun s9 wx => ∃ g, s9 = .pointer (some ⟨g, 0, none⟩) ∧ w3.heap.size ≤ g ∧ Hid (Below wq.heap.size wq wx) ∧ Hid (QBox wx g z1 z2))
        case first =>
          have HD : Hid (Below wq.heap.size wq w3.drew) := Lib.hid (below_drew HBq.out)
          have HDA : Hid (Below wq.heap.size wq (w3.alloc (.cells #[.int .i64 0, .int .i64 0] 39)).drew) := Lib.hid (below_drew (HBq.out.alloc HBq.out.size _))
          have HE : Hid (Below w3.heap.size w3 w3.drew) := Lib.hid (below_drew (Below.refl _ _))
          have HEA : Hid (Below w3.heap.size w3 (w3.alloc (.cells #[.int .i64 0, .int .i64 0] 39)).drew) := Lib.hid (below_drew ((Below.refl w3.heap.size w3).alloc (Nat.le_refl _) _))
          have KC : Hid (∀ w', Hid (Below w3.heap.size w3 w') → w'.cell? ⟨g, 0, none⟩ = some (.int .i64 x) ∧ w'.cell? ⟨g, 1, none⟩ = some (.int .i64 y) ∧ w'.cell? ⟨gT, 0, none⟩ = some (.int .i64 t1) ∧ w'.cell? ⟨gT, 1, none⟩ = some (.int .i64 t2)) := Lib.hid (fun w' h => ⟨(h.out.cell (p := ⟨g, 0, none⟩) hg3).trans X3.out, (h.out.cell (p := ⟨g, 1, none⟩) hg3).trans X4.out, (h.out.cell (p := ⟨gT, 0, none⟩) hgT3).trans Y3.out, (h.out.cell (p := ⟨gT, 1, none⟩) hgT3).trans Y4.out⟩)
          have KA : Hid (∀ (w' : World) (o : Obj), Hid (Below w3.heap.size w3 w') → Hid (Below w3.heap.size w3 (w'.alloc o))) := Lib.hid (fun w' o h => Lib.hid (h.out.alloc h.out.size o))
          have KN : Hid (∀ (w' w'' : World), Hid (Below w3.heap.size w3 w') → Below w'.heap.size w' w'' → Hid (Below w3.heap.size w3 w'')) := Lib.hid (fun w' w'' h k => Lib.hid (h.out.trans (k.mono h.out.size)))
          have KS : Hid (∀ (w' : World) (g : Nat) (x y : Value), Hid (Below w3.heap.size w3 w') → w3.heap.size ≤ g → Hid (Below w3.heap.size w3 ((w'.setCell ⟨g, 0, none⟩ x).setCell ⟨g, 1, none⟩ y))) := Lib.hid (fun w' g x y h hg => Lib.hid (bl_st h.out hg x y))
          have HZ0 : Hid (QBox (w3.alloc (.cells #[.int .i64 0, .int .i64 0] 39)).drew w3.heap.size 0 0) := Lib.hid (QBox.new w3 0 0)
          have hle0 : w3.heap.size ≤ w3.heap.size := Nat.le_refl _
          go_region_held3 (fun w' => w'.cell? ⟨g, 0, none⟩ = some (.int .i64 x) ∧ w'.cell? ⟨g, 1, none⟩ = some (.int .i64 y) ∧ w'.cell? ⟨gT, 0, none⟩ = some (.int .i64 t1) ∧ w'.cell? ⟨gT, 1, none⟩ = some (.int .i64 t2))
            (first | exact KC.out _ HE | exact KC.out _ HEA | exact KC.out _ (by assumption) | exact KC.out _ (KA.out _ _ (by assumption)) | exact KC.out _ (KS.out _ _ _ _ (by assumption) (by assumption)) | go_keep)
            (first
              | (go_at_call 141; (with_reducible refine (M1.out _).mono ?_); rintro e v1 ⟨rfl, b1⟩; (have D1 := KN.out _ _ (by first | exact HE | exact HEA | assumption | exact KA.out _ _ (by assumption)) b1); (have hle1 := D1.out.size); (first | (have HZ1 := Lib.hid (QBox.below HZ0.out b1 HZ0.out.lt)) | (have HZ1 := Lib.hid (QBox.below (QBox.new _ 0 0) b1 (by simp))) | skip); clear b1)
              | (go_at_call 125; (with_reducible refine (CK.out _).mono ?_); rintro e v2 ⟨rfl, b2⟩; (have D2 := KN.out _ _ (by first | assumption | exact KA.out _ _ (by assumption)) b2); (have hle2 := D2.out.size); (first | (have HZ2 := Lib.hid (QBox.below HZ1.out b2 HZ1.out.lt)) | (have HZ2 := Lib.hid (QBox.below (QBox.new _ 0 0) b2 (by simp))) | skip); clear b2)
              | (go_at_call 141; (with_reducible refine (M2.out _).mono ?_); rintro e v3 ⟨rfl, b3⟩; (have D3 := KN.out _ _ (by first | assumption | exact KA.out _ _ (by assumption)) b3); (have hle3 := D3.out.size); (first | (have HZ3 := Lib.hid (QBox.below HZ2.out b3 HZ2.out.lt)) | (have HZ3 := Lib.hid (QBox.below (QBox.new _ 0 0) b3 (by simp))) | skip); clear b3)
              | (go_at_call 140; (with_reducible refine (AD.out _).mono ?_); rintro e v4 ⟨rfl, b4⟩; (have D4 := KN.out _ _ (by first | assumption | exact KA.out _ _ (by assumption)) b4); (have hle4 := D4.out.size); (first | (have HZ4 := Lib.hid (QBox.below HZ3.out b4 HZ3.out.lt); (obtain ⟨⟨c0, c1⟩, f0, f1⟩ := HZ4.out.cells)) | (have HZ4 := Lib.hid (QBox.below (QBox.new _ 0 0) b4 (by simp)); (obtain ⟨⟨c0, c1⟩, f0, f1⟩ := HZ4.out.cells)) | skip); clear b4))
          all_goals
            go_wp2_with fail
            go_meet
            first
              | exact ⟨_, rfl, hle0, Lib.hid (HBq.out.trans ((KS.out _ _ _ _ D4 hle0).out.mono HBq.out.size)), Lib.hid (HZ4.out.st _ _)⟩
              | exact ⟨_, rfl, hle1, Lib.hid (HBq.out.trans ((KS.out _ _ _ _ D4 hle1).out.mono HBq.out.size)), Lib.hid (HZ4.out.st _ _)⟩
              | exact ⟨_, rfl, hle2, Lib.hid (HBq.out.trans ((KS.out _ _ _ _ D4 hle2).out.mono HBq.out.size)), Lib.hid (HZ4.out.st _ _)⟩
              | exact ⟨_, rfl, hle3, Lib.hid (HBq.out.trans ((KS.out _ _ _ _ D4 hle3).out.mono HBq.out.size)), Lib.hid (HZ4.out.st _ _)⟩
              | exact ⟨_, rfl, hle4, Lib.hid (HBq.out.trans ((KA.out _ _ D4).out.mono HBq.out.size)), Lib.hid (QBox.new _ _ _)⟩
              | (trace_state; sorry)
        obtain ⟨gU, rfl, hgU, HBx, HQU⟩ := hcut
        obtain ⟨w5, rfl⟩ : ∃ w5 : World, w5 = wc := ⟨_, rfl⟩
        clear x0 x1 y0 y1 X3 X4 Y3 Y4 HQT HBq CU CK GR M1 M2 AD hg3 hgT3 hgT hgU
        obtain ⟨⟨y0, y1⟩, _, _⟩ := HQU.out.cells
        have HO5 := Lib.hid (HO.out.below HBx.out)
        have hs5 := HBx.out.size
        have hws := HB.out.size
        obtain ⟨w6, hw6⟩ : ∃ w6, w6 = w5.alloc (.cells #[.int .i64 z1, .int .i64 z2] 39) := ⟨_, rfl⟩
        have S6 : w6.heap.size = w5.heap.size + 1 := by rw [hw6]; simp
        have ON := OwnQ.one w5 (w.heap.size) (Nat.le_trans hws hs5) IN.out.1 IN.out.2
        rw [← hw6] at ON
        have ON' := Lib.hid ON
        have B56 : Below w5.heap.size w5 w6 := by rw [hw6]; exact (Below.refl _ _).alloc (Nat.le_refl _) _
        have HO6 := Lib.hid (HO5.out.below (B56.mono hs5))
        have HB6 := Lib.hid ((HB.out.trans (HBx.out.mono hws)).trans (B56.mono (Nat.le_trans hws hs5)))
        have hrow := HO6.out.row
        have SRC := Lib.hid (fun (j : Nat) (u : Value) (hu : ((sL N k).map (Value.int .i64))[j]? = some u) => show w6.cell? ((⟨g, 0, none⟩ : Addr).add j) = some u from by
          have hj : j < (sL N k).length := by
            have := (List.getElem?_eq_some_iff.1 hu).1
            simpa using this
          have hl := HO6.out.len
          rw [List.getElem?_map, List.getElem?_eq_getElem hj] at hu
          have := HO6.out.cellGet (j := j) (by omega)
          rw [List.getD_eq_getElem?_getD, List.getElem?_eq_getElem hj] at this
          simp at hu
          rw [← hu]
          rw [Addr.add_lit, Nat.zero_add]; exact this)
        have ON1 := ON'.out.row
        have FL := Lib.hid HO6.out.len
        have F64 := Lib.hid HO6.out.in64
        have SZ6 : w.heap.size ≤ w6.heap.size := by omega
        have HQ5 := Lib.hid (Nat.le_trans hws hs5)
        clear ON hrow HO5 HO6 HO
        subst hw6
        go_upto_region 6 with (at_builtin; refine wpList_append_own_at _ rfl _ _ 50 rfl w.heap.size 39 i0 (.agg #[.int .i64 0, .int .i64 0]) 2 16 Try.underlying50 HIF.out hz0 hz1 hz2 rfl (by decide) _ 1 [.int .i64 z1, .int .i64 z2] rfl ON1 ⟨g, 0, none⟩ m cap ((sL N k).map (.int .i64)) rfl (by rw [List.length_map]; exact FL.out) SRC.out (fun u hu => by obtain ⟨z, _, rfl⟩ := List.mem_map.1 hu; rfl) (by unfold maxLen; omega) (by omega) SZ6 ?_; intro v' w7 hown7 hgrow7 hnil7 hloc7)
        have own7 := Lib.hid (OwnQ.pre FL.out F64.out IN.out.1 IN.out.2 hown7)
        have HB7 := Lib.hid (HB6.out.grown hgrow7 SZ6 (fun q hq => (ON1.lt q hq).1))
        have ik : (k : Int) - 1 = ((k - 1 : Nat) : Int) := by omega
        clear hown7 hgrow7 hnil7 hloc7 ON1 SRC ON'
        go_wp2_with fail
        go_roundg (k - 1)
        case rel => exact ⟨k - 1, by omega, by omega, by first | rfl | go_num, Lib.hid (by rw [STEP.out, show N + 1 - (k - 1) = m + 1 by have := HM.out; omega]; exact own7.out), HB7⟩
        case measure => omega
      · have hk0 : k = 0 := by omega
        subst hk0
        obtain ⟨g, cap, rfl, hg1, hg2⟩ := HO.out.shape (by omega)
        obtain ⟨s, hs⟩ : ∃ s : Value, s = .slice (some ⟨g, 0, none⟩) (N + 1 - 0) cap := ⟨_, rfl⟩
        rw [← hs] at HO ⊢
        have TD := Lib.hid (toldS (N + 1 - 0) (sL N 0) s _ _ wq (by omega) HO.out (fun i hi => by
          unfold sL
          rw [(prL_at _ _ hi).1, (prL_at _ _ hi).2]
          exact st2 N hN hN1 _ (by omega)))
        clear hs
        go_wp2_with fail
        refine TD.out.mono ?_
        rintro e w4 ⟨rfl, b4⟩
        have FIN : Hid (NewQB (N + 1) (sL N 0) true w (.returned (.tuple #[s, .bool true])) w4) := Lib.hid ⟨s, rfl, (HO.out.below b4).wide b4.size (Nat.le_refl _), HB.out.trans (b4.mono HB.out.size)⟩
        go_wp2_with fail
        go_ret2
        exact FIN.out
  · rw [decide_eq_false h] at F ⊢
    rw [show stLenM n = 0 from if_neg h, show stLM n = [] from if_neg h]
    clear h
    go_enter Try.func48, Try.ntmps48
    go_wp2_with fail
    refine (F.out _).mono ?_
    rintro e w1 ⟨rfl, rfl⟩
    go_wp2_with fail
    go_ret2
    exact newQ_empty (Below.refl _ _) rfl
end Go.Proofs.Ytnpiciabpgkiiad
namespace Go.Proofs.Ytnpiciabpgkiiad
set_option linter.unusedVariables false
theorem st_lens (n : Int) : stLenM n = stLen n := rfl
theorem st_lists (n : Int) : stLM n = stL n := by
  unfold stLM stL
  split
  · unfold sL
    simp only [Nat.zero_add, Nat.sub_zero]
    rfl
  · rfl
theorem sectabS2 (n : Int) (w : World) : Calls Try.prog 48 #[.int .i64 n] w (NewQB (stLen n) (stL n) (decide (1 ≤ n ∧ n ≤ 10)) w) := by
  have := sectabS n w
  rw [st_lists, st_lens] at this
  exact this
end Go.Proofs.Ytnpiciabpgkiiad
namespace Go.Proofs.Ytnpiciabpgkiiad
open Go.RowKit
set_option linter.unusedVariables false
def intsL (L : List Nat) : List Int := L.map fun y : Nat => (y : Int)
theorem intsL_len (L : List Nat) : (intsL L).length = L.length := by simp [intsL]
theorem intsL_app (L : List Nat) (x : Nat) : intsL (L ++ [x]) = intsL L ++ [(x : Int)] := by simp [intsL]
theorem intsL_has (L : List Nat) (x : Nat) : inL (intsL L) (x : Int) = L.contains x := by
  unfold inL intsL
  rw [Bool.eq_iff_iff, decide_eq_true_iff, List.contains_iff_mem]
  constructor
  · intro h
    obtain ⟨y, hy, e⟩ := List.mem_map.1 h
    obtain rfl : y = x := by omega
    exact hy
  · intro h; exact List.mem_map.2 ⟨x, h, rfl⟩
theorem intsL_at {L : List Nat} {i : Nat} (h : i < L.length) : (intsL L).getD i 0 = ((L.getD i 0 : Nat) : Int) := by
  unfold intsL
  rw [List.getD_eq_getElem?_getD, List.getElem?_map, List.getD_eq_getElem?_getD, List.getElem?_eq_getElem h]; rfl
theorem drop_at {L : List Nat} {i : Nat} (h : i < L.length) : L.drop i = L.getD i 0 :: L.drop (i + 1) := by
  rw [List.getD_eq_getElem?_getD, List.getElem?_eq_getElem h]
  exact List.drop_eq_getElem_cons h
theorem won_step {n r i b : Nat} {L : List Nat} (h : i < L.length) : wonG n r (L.drop i) i b = if decide (r ≤ i) && (decide (b ≤ L.getD i 0) || decide (i + 1 = n)) then decide (L.getD i 0 + 1 = n) else wonG n r (L.drop (i + 1)) (i + 1) (max b (L.getD i 0 + 1)) := by
  rw [drop_at h]; rfl
set_option maxHeartbeats 1000000 in
/-- A copy of a row that may be empty. -/
theorem ownP (zs : List Int) (b off cap : Nat) (w : World) (hn : zs.length ≤ 1048576) (h : IntsV w w.heap.size (.slice (some ⟨b, off, none⟩) zs.length cap) zs) :
    Calls Try.prog 210 #[.slice (some ⟨b, off, none⟩) zs.length cap] w (NewInts zs w) := by
  obtain ⟨p, cap2, he, hc, hm, hz, hI⟩ := h
  injection he with e1 e2 e3
  subst e1; subst e3
  clear e2
  have CE : ∀ j u, (zs.map (Value.int .i64))[j]? = some u → (w.alloc (.cells #[] 3)).cell? ((⟨b, off, none⟩ : Addr).add j) = some u := by
    intro j u hu
    rw [List.getElem?_map] at hu
    have hj : j < zs.length := by
      rcases Nat.lt_or_ge j zs.length with h' | h'
      · exact h'
      · rw [List.getElem?_eq_none h'] at hu; cases hu
    obtain ⟨b', off', e, hb', hc'⟩ := hI j hj
    obtain ⟨rfl, rfl⟩ : b = b' ∧ off = off' := by simpa using e
    rw [List.getElem?_eq_getElem hj] at hu
    rw [Addr.add_lit, World.cell?_alloc_lt _ _ _ (by exact hb'), hc']; exact hu
  have HZ := Lib.hid hz
  have HCE := Lib.hid CE
  clear hI hz CE
  obtain ⟨i0, hi, hz0, hz1, hz2⟩ := info_parts intInfo
  have B1 := Lib.hid ((Below.refl w.heap.size w).alloc (Nat.le_refl _) (.cells #[] 3))
  have O1 := Lib.hid (OwnV.empty w w.heap.size (Nat.le_refl _))
  go_enter Try.func210, Try.ntmps210
  go_wp2_with (at_builtin; refine wpList_append_own _ rfl _ _ 33 rfl w.heap.size 3 i0 (.int .i64 0) 1 8 Try.underlying33 hi hz0 hz1 hz2 rfl (by decide) _ 0 [] rfl O1.out.row ⟨b, off, none⟩ zs.length cap (zs.map (.int .i64)) rfl (by simp) HCE.out (fun u hu => by obtain ⟨z, _, rfl⟩ := List.mem_map.1 hu; rfl) (by unfold maxLen; omega) (by omega) (by simp) ?_; intro v' w3 hown3 hgrow3 hnil3)
  have FIN : Hid (NewInts zs w (.returned v') w3) := Lib.hid ⟨v', rfl, ⟨by simpa using hown3, fun q hq => (hown3.lt q hq).2, Nat.le_refl _, HZ.out⟩, B1.out.grown hgrow3 (by simp) (fun q hq => (O1.out.row.lt q hq).1)⟩
  clear hown3 hgrow3 hnil3
  go_ret
  exact FIN.out
set_option maxRecDepth 100000 in
set_option maxHeartbeats 4000000 in
theorem winsS0 (n r : Nat) (hn : n ≤ 7) (L : List Nat) (p : Option Addr) (cap : Nat) (w : World) (hl : L.length = n) (hL : ∀ y ∈ L, y < n) (h : IntsV w w.heap.size (.slice p (intsL L).length cap) (intsL L)) :
    Calls Try.prog 143 #[.int .i64 n, .int .i64 r, .slice p (intsL L).length cap] w (Gives (.int .i64 (winsF n r 0 L : Nat)) w) := by
  obtain ⟨p2, cap2, he, hc, hm, hz, hI⟩ := h
  injection he with e1 e2 e3
  subst e1; subst e3
  have E1 := Lib.hid hI
  have W0 := Lib.hid (show winsF n r 0 L = if wonG n r L 0 0 = true then 1 else 0 from rfl)
  have LL := intsL_len L
  have ST := Lib.hid (fun i b (hi : i < n) => won_step (n := n) (r := r) (i := i) (b := b) (L := L) (by omega))
  have AT := Lib.hid (fun i (hi : i < n) => intsL_at (L := L) (i := i) (by omega))
  have MEM := Lib.hid (fun i (hi : i < n) => hL (L.getD i 0) (by rw [List.getD_eq_getElem?_getD, List.getElem?_eq_getElem (by omega)]; exact List.getElem_mem (by omega)))
  have DN : Hid (wonG n r (L.drop n) n = fun _ => false) := Lib.hid (by rw [List.drop_eq_nil_of_le (by omega)]; rfl)
  have W1 := Lib.hid (show wonG n r L 0 0 = wonG n r (L.drop 0) 0 0 by rw [List.drop_zero])
  have MO := Lib.hid (fun a b w => mostS a b w)
  have t1 : ¬ (((intsL L).length : Int) < (n : Int)) := by omega
  have LH := Lib.hid LL
  have HL2 := Lib.hid hl
  clear hI hz e2 hL LL hl hm hc
  go_enter Try.func143, Try.ntmps143
  go_wp2_with fail
  go_loopg [9, 10] n (fun gg s i wr => ∃ k b : Nat, k ≤ n ∧ n - k ≤ gg ∧ b ≤ n ∧ i = .int .i64 k ∧ s = .int .i64 ((b : Int) - 1) ∧ Hid (wonG n r L 0 0 = wonG n r (L.drop k) k b) ∧ ∃ m, wr = w.drewN m)
  case atStart => exact ⟨0, 0, Nat.zero_le _, by omega, Nat.zero_le _, rfl, rfl, W1, 0, rfl⟩
  case round =>
    clear W1
    obtain ⟨k, b, hk, hgg, hb, rfl, rfl, HW, m, rfl⟩ := hrel
    by_cases hlt : k < n
    · obtain ⟨bb, off, rfl, hbb, hc0⟩ := E1.out.get (i := k) (by rw [LH.out, HL2.out]; exact hlt)
      have hcw : (w.drewN m).cell? ⟨bb, off + k, none⟩ = some (.int .i64 ((intsL L).getD k 0)) := hc0
      rw [AT.out k hlt] at hcw
      have i0 : (0 : Int) ≤ (k : Int) := by omega
      have i1 : (k : Int) < (n : Int) := by omega
      have i2 : (k : Int) < ((intsL L).length : Int) := by rw [LH.out, HL2.out]; omega
      have ym := MEM.out k hlt
      have S1 := Lib.hid (ST.out k b hlt)
      obtain ⟨y, hy⟩ : ∃ y, y = L.getD k 0 := ⟨_, rfl⟩
      rw [← hy] at hcw ym S1
      clear hc0 hy
      have FINY : Hid ((decide (r ≤ k) && (decide (b ≤ y) || decide (k + 1 = n))) = true → wonG n r L 0 0 = decide (y + 1 = n)) := Lib.hid (fun h => by rw [HW.out, S1.out, if_pos h])
      have FINN : Hid ((decide (r ≤ k) && (decide (b ≤ y) || decide (k + 1 = n))) = false → wonG n r L 0 0 = wonG n r (L.drop (k + 1)) (k + 1) (max b (y + 1))) := Lib.hid (fun h => by rw [HW.out, S1.out, h]; rfl)
      have M1 := Lib.hid (show ∀ w, Calls Try.prog 107 #[.int .i64 ((b : Int) - 1), .int .i64 (y : Int)] w fun e w' => e = .returned (.int .i64 (((max b (y + 1) : Nat) : Int) - 1)) ∧ w = w' from fun w => by
        have := MO.out ((b : Int) - 1) (y : Int) w
        rw [show max ((b : Int) - 1) (y : Int) = ((max b (y + 1) : Nat) : Int) - 1 by omega] at this
        exact this)
      have mxb : max b (y + 1) ≤ n := by omega
      generalize max b (y + 1) = b2 at *
      clear S1 HW
      by_cases hr : r ≤ k
      · have t2 : (r : Int) ≤ (k : Int) := by omega
        by_cases hby : b ≤ y
        · have t3 : (b : Int) - 1 < (y : Int) := by omega
          have R1 := Lib.hid (FINY.out (by rw [decide_eq_true hr, decide_eq_true hby]; rfl))
          clear FINY FINN hr hby
          by_cases hy1 : y + 1 = n
          · have R2 := Lib.hid (show winsF n r 0 L = 1 by rw [W0.out, R1.out, decide_eq_true hy1]; rfl)
            have t4 : ((y : Int) == (n : Int) - 1) = true := by simp; omega
            clear R1 hy1
            go_wp2_with fail
            go_ret
            exact ⟨by rw [R2.out]; rfl, below_drewN (Below.refl _ _) m⟩
          · have R2 := Lib.hid (show winsF n r 0 L = 0 by rw [W0.out, R1.out, decide_eq_false hy1]; rfl)
            have t4 : ((y : Int) == (n : Int) - 1) = false := by simp; omega
            clear R1 hy1
            go_wp2_with fail
            go_ret
            exact ⟨by rw [R2.out]; rfl, below_drewN (Below.refl _ _) m⟩
        · have t3 : ¬ (b : Int) - 1 < (y : Int) := by omega
          by_cases hkn : k + 1 = n
          · have t5 : ((k : Int) == (n : Int) - 1) = true := by simp; omega
            have R1 := Lib.hid (FINY.out (by rw [decide_eq_true hr, decide_eq_true hkn, Bool.or_true]; rfl))
            clear FINY FINN hr hby hkn
            by_cases hy1 : y + 1 = n
            · have R2 := Lib.hid (show winsF n r 0 L = 1 by rw [W0.out, R1.out, decide_eq_true hy1]; rfl)
              have t4 : ((y : Int) == (n : Int) - 1) = true := by simp; omega
              clear R1 hy1
              go_wp2_with fail
              go_ret
              exact ⟨by rw [R2.out]; rfl, below_drewN (Below.refl _ _) m⟩
            · have R2 := Lib.hid (show winsF n r 0 L = 0 by rw [W0.out, R1.out, decide_eq_false hy1]; rfl)
              have t4 : ((y : Int) == (n : Int) - 1) = false := by simp; omega
              clear R1 hy1
              go_wp2_with fail
              go_ret
              exact ⟨by rw [R2.out]; rfl, below_drewN (Below.refl _ _) m⟩
          · have t5 : ((k : Int) == (n : Int) - 1) = false := by simp; omega
            have R1 := Lib.hid (FINN.out (by rw [decide_eq_true hr, decide_eq_false hkn, decide_eq_false hby]; rfl))
            clear FINY FINN hr hby hkn
            go_wp2_with fail
            refine (M1.out _).mono ?_
            rintro e w1 ⟨rfl, rfl⟩
            go_wp2_with fail
            go_roundg (n - (k + 1))
            case rel => exact ⟨k + 1, b2, by omega, by omega, mxb, by go_num, rfl, R1, _, rfl⟩
            case measure => omega
      · have t2 : ¬ (r : Int) ≤ (k : Int) := by omega
        have R1 := Lib.hid (FINN.out (by rw [decide_eq_false hr]; rfl))
        clear FINY FINN hr
        go_wp2_with fail
        refine (M1.out _).mono ?_
        rintro e w1 ⟨rfl, rfl⟩
        go_wp2_with fail
        go_roundg (n - (k + 1))
        case rel => exact ⟨k + 1, b2, by omega, by omega, mxb, by go_num, rfl, R1, _, rfl⟩
        case measure => omega
    · have hkn : k = n := by omega
      have R2 := Lib.hid (show winsF n r 0 L = 0 by rw [W0.out, HW.out, hkn, DN.out]; rfl)
      have i1 : ¬ (k : Int) < (n : Int) := by omega
      clear hkn HW
      go_wp2_with fail
      go_ret
      exact ⟨by rw [R2.out]; rfl, below_drewN (Below.refl _ _) m⟩
theorem pow_le7 {n d : Nat} (hn : n ≤ 7) (hd : d ≤ 7) : n ^ d ≤ 823543 :=
  Nat.le_trans (Nat.pow_le_pow_left hn d) (Nat.le_trans (Nat.pow_le_pow_right (by omega) hd) (by decide))
set_option maxRecDepth 100000 in
set_option maxHeartbeats 4000000 in
theorem winsS (n r : Nat) (hn : n ≤ 7) : ∀ (d : Nat) (L : List Nat) (b off cap : Nat) (w : World), L.length + d = n → (∀ y ∈ L, y < n) → IntsV w w.heap.size (.slice (some ⟨b, off, none⟩) (intsL L).length cap) (intsL L) →
    Calls Try.prog 143 #[.int .i64 n, .int .i64 r, .slice (some ⟨b, off, none⟩) (intsL L).length cap] w (Gives (.int .i64 (winsF n r d L : Nat)) w)
  | 0, L, b, off, cap, w, hl, hL, h => winsS0 n r hn L _ cap w (by omega) hL h
  | d + 1, L, b, off, cap, w, hl, hL, h => by
    have IH := Lib.hid (fun (x : Nat) (hx : x < n) (b' off' cap' : Nat) (w' : World) (h' : IntsV w' w'.heap.size (.slice (some ⟨b', off', none⟩) (intsL (L ++ [x])).length cap') (intsL (L ++ [x]))) =>
      winsS n r hn d (L ++ [x]) b' off' cap' w' (by rw [List.length_append]; simp; omega) (fun y hy => by
        rcases List.mem_append.1 hy with h1 | h1
        · exact hL y h1
        · simp at h1; omega) h')
    have lf := intsL_len L
    have l7 : (intsL L).length ≤ 7 := by omega
    have OWN := Lib.hid (fun (w' : World) (hb : Below w.heap.size w w') => ownP (intsL L) b off cap w' (by omega) ((h.below hb).more hb.size))
    have HAS := Lib.hid (fun (x : Nat) (w' : World) (hb : Below w.heap.size w w') => show Calls Try.prog 209 #[.slice (some ⟨b, off, none⟩) (intsL L).length cap, .int .i64 (x : Int)] w' fun e w'' => e = .returned (.bool (L.contains x)) ∧ ∃ m, w'' = w'.drewN m from by
      rw [← intsL_has]; exact hasS (intsL L) (x : Int) _ w.heap.size w' (by omega) (h.below hb))
    have LAPP := Lib.hid (fun x => intsL_app L x)
    have IIN := Lib.hid h
    obtain ⟨F, hF⟩ : ∃ F : Nat → Nat, F = fun x => if L.contains x = true then 0 else winsF n r d (L ++ [x]) := ⟨_, rfl⟩
    have FY := Lib.hid (fun x (hx : L.contains x = true) => show F x = 0 by rw [hF]; exact if_pos hx)
    have FN := Lib.hid (fun x (hx : L.contains x = false) => show F x = winsF n r d (L ++ [x]) by rw [hF]; exact if_neg (by rw [hx]; decide))
    have FB : ∀ x, F x ≤ 823543 := fun x => by
      rw [hF]
      show (if L.contains x = true then 0 else winsF n r d (L ++ [x])) ≤ 823543
      split
      · omega
      · exact Nat.le_trans (winsF_bd n r d _) (pow_le7 hn (by omega))
    have UB := Lib.hid (fun k => upTo_bd FB k)
    have US := Lib.hid (fun k => show upTo F (k + 1) = upTo F k + F k from rfl)
    have FBH := Lib.hid FB
    have W0 := Lib.hid (show winsF n r (d + 1) L = upTo F n by rw [hF]; rfl)
    obtain ⟨i0, hi, hz0, hz1, hz2⟩ := info_parts intInfo
    have t1 : ((intsL L).length : Int) < (n : Int) := by omega
    have L7 := Lib.hid l7
    clear h hL hF FB lf l7 hl
    go_enter Try.func143, Try.ntmps143
    go_wp2_with fail
    go_loopg [7, 8] n (fun gg s i wr => ∃ k : Nat, k ≤ n ∧ n - k ≤ gg ∧ i = .int .i64 k ∧ s = .int .i64 (upTo F k : Nat) ∧ Hid (Below w.heap.size w wr))
    case atStart => exact ⟨0, Nat.zero_le _, by omega, rfl, rfl, Lib.hid (Below.refl _ _)⟩
    case round =>
      obtain ⟨k, hk, hgg, rfl, rfl, HB⟩ := hrel
      by_cases hlt : k < n
      · have i0' : (0 : Int) ≤ (k : Int) := by omega
        have i1 : (k : Int) < (n : Int) := by omega
        have ub := UB.out k
        have ub2 : k * 823543 ≤ 5764801 := by omega
        have fb := FBH.out k
        have us := US.out k
        have H1 := Lib.hid (HAS.out k wr HB.out)
        obtain ⟨s, hs⟩ : ∃ s, s = upTo F k := ⟨_, rfl⟩
        rw [← hs] at ub us ⊢
        have sb : s ≤ 5764801 := by omega
        cases hc : L.contains k
        · rw [hc] at H1
          have E := Lib.hid (show upTo F (k + 1) = s + winsF n r d (L ++ [k]) by rw [us, FN.out k hc])
          rw [FN.out k hc] at fb
          have IHK := Lib.hid (IH.out k hlt)
          have LK := Lib.hid (LAPP.out k)
          rw [LK.out] at IHK
          generalize winsF n r d (L ++ [k]) = wn at *
          clear hc hs us ub ub2
          go_wp2_with fail
          refine H1.out.mono ?_
          rintro e w1 ⟨rfl, m, rfl⟩
          have HB1 := Lib.hid (below_drewN HB.out m)
          go_wp2_with fail
          refine (OWN.out _ HB1.out).mono ?_
          rintro e w2 ⟨u, rfl, o2, b2⟩
          have HB2 := Lib.hid (bl_then HB1.out b2)
          have o3 : OwnV w2 wr.heap.size w2.heap.size u (intsL L) := o2
          have hown := o3.row
          have OWN2 := Lib.hid o3
          have hs2 : wr.heap.size ≤ w2.heap.size := b2.size
          obtain ⟨q2, d2, rfl, hd2, _⟩ := o2.intsV
          have l7 := L7.out
          clear b2 o2 o3
          go_wp2_with (at_builtin; refine wpList_append_own_at _ rfl _ _ 33 rfl wr.heap.size 3 i0 (.int .i64 0) 1 8 Try.underlying33 hi hz0 hz1 hz2 rfl (by decide) _ (intsL L).length ((intsL L).map (.int .i64)) rfl (hown.alloc _) ⟨w2.heap.size, 0, none⟩ 1 1 [.int .i64 k] rfl rfl (cell_one_new _ _ _) (fun x hx => by simp at hx; subst hx; rfl) (by unfold maxLen; omega) (by omega) (by simp; omega) ?_; intro v' w4 hown4 hgrow4 hnil4 hloc4)
          have o5 : OwnV w4 wr.heap.size w4.heap.size v' (intsL L ++ [(k : Int)]) := OWN2.out.app (by unfold InI64; omega) hown4
          obtain ⟨g5, c5, rfl, hg5, _⟩ := o5.shape (by simp)
          have I5 := Lib.hid o5.intsV
          have HB4 := Lib.hid ((HB2.out.alloc HB2.out.size (.cells #[.int .i64 (k : Int)] 3)).grown hgrow4 (by have := HB2.out.size; simp; omega) (fun q hq => by have := (OWN2.out.row.lt q hq).1; have := HB.out.size; omega))
          clear hown4 hgrow4 hnil4 hloc4 o5 hown OWN2
          go_wp2_with fail
          refine (IHK.out _ _ _ _ I5.out).mono ?_
          rintro e w6 ⟨rfl, b6⟩
          have HB6 := Lib.hid (bl_then HB4.out b6)
          clear b6
          go_wp2_with fail
          go_roundg (n - (k + 1))
          case rel => exact ⟨k + 1, by omega, by omega, by go_num, by rw [E.out]; rfl, HB6⟩
          case measure => omega
        · rw [hc] at H1
          have E := Lib.hid (show upTo F (k + 1) = s by rw [us, FY.out k hc]; rfl)
          clear hc hs us ub ub2
          go_wp2_with fail
          refine H1.out.mono ?_
          rintro e w1 ⟨rfl, m, rfl⟩
          have HB1 := Lib.hid (below_drewN HB.out m)
          go_wp2_with fail
          go_roundg (n - (k + 1))
          case rel => exact ⟨k + 1, by omega, by omega, by go_num, by rw [E.out], HB1⟩
          case measure => omega
      · have hkn : k = n := by omega
        have R2 := Lib.hid (show upTo F k = winsF n r (d + 1) L by rw [W0.out, hkn])
        have i1 : ¬ (k : Int) < (n : Int) := by omega
        clear hkn
        go_wp2_with fail
        go_ret
        exact ⟨by rw [R2.out]; rfl, HB.out⟩
def cwOk (n r : Int) : Bool := decide (1 ≤ n ∧ n ≤ 7) && decide (0 ≤ r ∧ r ≤ n - 1)
def cwV (n r : Int) : Value := if cwOk n r = true then .tuple #[.int .i64 (winsF n.toNat r.toNat n.toNat [] : Nat), .bool true] else .tuple #[.int .i64 0, .bool false]
theorem cwV_form (n r : Int) : ∃ x ok, cwV n r = .tuple #[.int .i64 x, .bool ok] := by
  unfold cwV; split <;> exact ⟨_, _, rfl⟩
set_option maxRecDepth 100000 in
set_option maxHeartbeats 2000000 in
theorem countS (n r : Int) (w : World) : Calls Try.prog 53 #[.int .i64 n, .int .i64 r] w (Gives (cwV n r) w) := by
  have F := Lib.hid (fun w => inS n 1 7 w)
  have G := Lib.hid (fun w => inS r 0 (n - 1) w)
  by_cases h1 : 1 ≤ n ∧ n ≤ 7
  · rw [decide_eq_true h1] at F
    obtain ⟨h1a, h1b⟩ := h1
    by_cases h2 : 0 ≤ r ∧ r ≤ n - 1
    · rw [decide_eq_true h2] at G
      rw [show cwV n r = .tuple #[.int .i64 (winsF n.toNat r.toNat n.toNat [] : Nat), .bool true] from if_pos (by unfold cwOk; rw [decide_eq_true ⟨h1a, h1b⟩, decide_eq_true h2]; rfl)]
      obtain ⟨N, rfl⟩ : ∃ N : Nat, n = N := ⟨n.toNat, by omega⟩
      obtain ⟨R, rfl⟩ : ∃ R : Nat, r = R := ⟨r.toNat, by omega⟩
      have WS := Lib.hid (fun b off cap w h => winsS N R (by omega) N [] b off cap w (by simp) (fun y hy => by cases hy) h)
      simp only [Int.toNat_natCast]
      generalize winsF N R N [] = wn at *
      have I0 := Lib.hid ((OwnV.empty w w.heap.size (Nat.le_refl _)).intsV)
      have B0 := Lib.hid ((Below.refl w.heap.size w).alloc (Nat.le_refl _) (.cells #[] 3))
      clear h2
      go_enter Try.func53, Try.ntmps53
      go_wp2_with fail
      refine (F.out _).mono ?_
      rintro e w1 ⟨rfl, rfl⟩
      go_wp2_with fail
      refine (G.out _).mono ?_
      rintro e w2 ⟨rfl, rfl⟩
      go_wp2_with fail
      refine (WS.out _ _ _ _ I0.out).mono ?_
      rintro e w3 ⟨rfl, b3⟩
      have B3 := Lib.hid (bl_then B0.out b3)
      clear b3
      go_wp2_with fail
      go_ret2
      exact ⟨rfl, B3.out⟩
    · rw [decide_eq_false h2] at G
      rw [show cwV n r = .tuple #[.int .i64 0, .bool false] from if_neg (by unfold cwOk; rw [decide_eq_false h2, Bool.and_false]; decide)]
      clear h2
      go_enter Try.func53, Try.ntmps53
      go_wp2_with fail
      refine (F.out _).mono ?_
      rintro e w1 ⟨rfl, rfl⟩
      go_wp2_with fail
      refine (G.out _).mono ?_
      rintro e w2 ⟨rfl, rfl⟩
      go_wp2_with fail
      go_ret2
      exact ⟨rfl, Below.refl _ _⟩
  · rw [decide_eq_false h1] at F
    rw [show cwV n r = .tuple #[.int .i64 0, .bool false] from if_neg (by unfold cwOk; rw [decide_eq_false h1, Bool.false_and]; decide)]
    clear h1
    go_enter Try.func53, Try.ntmps53
    go_wp2_with fail
    refine (F.out _).mono ?_
    rintro e w1 ⟨rfl, rfl⟩
    go_wp2_with fail
    go_ret2
    exact ⟨rfl, Below.refl _ _⟩
theorem fac_bd : ∀ n : Nat, n < 8 → 1 ≤ facN n ∧ facN n ≤ 5040 := by decide
set_option maxRecDepth 100000 in
set_option maxHeartbeats 2000000 in
theorem countI (n r : Int) (w : World) : Calls Try.prog 52 #[.int .i64 n, .int .i64 r] w (Gives (cwV n r) w) := by
  have CH := Lib.hid (fun w => secChI n r w)
  cases hs : secOk n r
  · rw [show scV n r = .tuple #[.agg #[.int .i64 0, .int .i64 0], .bool false] from if_neg (by rw [hs]; decide)] at CH
    rw [show cwV n r = .tuple #[.int .i64 0, .bool false] from if_neg (by
      intro h
      unfold cwOk at h
      rw [Bool.and_eq_true, decide_eq_true_iff, decide_eq_true_iff] at h
      unfold secOk at hs
      rw [decide_eq_true (by omega), decide_eq_true h.2] at hs
      cases hs)]
    clear hs
    go_enter Try.func52, Try.ntmps52
    go_wp2_with fail
    refine (CH.out _).mono ?_
    rintro e w1 ⟨rfl, b1⟩
    have B1 := Lib.hid (b1.alloc b1.size (.cells #[.int .i64 0, .int .i64 0] 39))
    clear b1
    go_wp2_with fail
    go_ret2
    exact ⟨rfl, B1.out⟩
  · have hs2 := hs
    unfold secOk at hs2
    rw [Bool.and_eq_true, decide_eq_true_iff, decide_eq_true_iff] at hs2
    obtain ⟨⟨h1a, h1b⟩, h2a, h2b⟩ := hs2
    rw [show scV n r = .tuple #[.agg #[.int .i64 (scN n.toNat r.toNat), .int .i64 (scD n.toNat r.toNat)], .bool true] from if_pos hs] at CH
    by_cases h7 : n ≤ 7
    · rw [show cwV n r = .tuple #[.int .i64 (winsF n.toNat r.toNat n.toNat [] : Nat), .bool true] from if_pos (by unfold cwOk; rw [decide_eq_true ⟨h1a, h7⟩, decide_eq_true ⟨h2a, h2b⟩]; rfl)]
      obtain ⟨N, rfl⟩ : ∃ N : Nat, n = N := ⟨n.toNat, by omega⟩
      obtain ⟨R, rfl⟩ : ∃ R : Nat, r = R := ⟨r.toNat, by omega⟩
      simp only [Int.toNat_natCast] at CH ⊢
      have EQ := Lib.hid (wins_eq (n := N) (r := R) (by omega) (by omega))
      have wb := Nat.le_trans (winsF_bd N R N []) (pow_le7 (n := N) (d := N) (by omega) (by omega))
      obtain ⟨_, pb, qb⟩ := sc_ok N (by omega) R (by omega) (by omega)
      have FB := Lib.hid (fun k (hk : k ≤ N) => fac_bd k (by omega))
      have FS := Lib.hid (fun k => show facN (k + 1) = facN k * (k + 1) from rfl)
      generalize scN N R = p at *
      generalize scD N R = q at *
      generalize winsF N R N [] = wn at *
      clear hs h1b
      go_enter Try.func52, Try.ntmps52
      go_wp2_with fail
      refine (CH.out _).mono ?_
      rintro e w1 ⟨rfl, b1⟩
      have B1 := Lib.hid (b1.alloc b1.size (.cells #[.int .i64 p, .int .i64 q] 39))
      have Q1 := Lib.hid (QBox.new w1 p q)
      clear b1
      go_wp2_with fail
      obtain ⟨wa, hwa⟩ : ∃ wa, wa = w1.alloc (.cells #[.int .i64 p, .int .i64 q] 39) := ⟨_, rfl⟩
      rw [← hwa] at B1 Q1 ⊢
      clear hwa
      go_loopg [8, 23] N (fun gg s i wr => ∃ k : Nat, k ≤ N ∧ N - k ≤ gg ∧ i = .int .i64 k ∧ s = .int .i64 (facN k : Nat) ∧ wr = wa)
      case atStart => exact ⟨0, Nat.zero_le _, by omega, rfl, rfl, rfl⟩
      case round =>
        obtain ⟨k, hk, hgg, rfl, rfl, rfl⟩ := hrel
        have fb := FB.out k hk
        by_cases hlt : k < N
        · have i0 : (0 : Int) ≤ (k : Int) := by omega
          have i1 : (k : Int) < (N : Int) := by omega
          have fb1 := FB.out (k + 1) (by omega)
          have fs := FS.out k
          have E := Lib.hid (show ((facN k : Nat) : Int) * ((k : Int) + 1) = (facN (k + 1) : Nat) by rw [fs, Int.natCast_mul]; rfl)
          have WR : IntKind.i64.wrap (((facN k : Nat) : Int) * ((k : Int) + 1)) = ((facN k : Nat) : Int) * ((k : Int) + 1) := IntWalk.i64_in _ (by rw [E.out]; omega)
          clear fs fb1
          obtain ⟨s, hs⟩ : ∃ s, s = facN k := ⟨_, rfl⟩
          rw [← hs] at E WR fb ⊢
          clear hs
          go_wp2_with fail
          go_roundg (N - (k + 1))
          case rel => exact ⟨k + 1, by omega, by omega, by go_num, by rw [E.out], rfl⟩
          case measure => omega
        · have hkN : k = N := by omega
          have i1 : ¬ (k : Int) < (N : Int) := by omega
          rw [← hkN] at EQ
          obtain ⟨⟨x0, x1⟩, _, _⟩ := Q1.out.cells
          obtain ⟨s, hs⟩ : ∃ s, s = facN k := ⟨_, rfl⟩
          rw [← hs] at EQ fb ⊢
          have m0 : 0 ≤ (s : Int) * p := Int.mul_nonneg (by omega) pb.1
          have m1 : (s : Int) * p ≤ 5040 * 25200 := Int.mul_le_mul (by omega) pb.2 pb.1 (by omega)
          have WR : IntKind.i64.wrap ((s : Int) * p) = (s : Int) * p := IntWalk.i64_in _ (by omega)
          have WT : IntKind.i64.wrap (((s : Int) * p).tdiv q) = (wn : Int) := by rw [EQ.out]; exact IntWalk.i64_in _ (by omega)
          have q0 : q ≠ 0 := by omega
          have qz : (q == 0) = false := by simp; omega
          clear hs hkN
          go_wp2_with fail
          go_ret2
          exact ⟨rfl, B1.out⟩
    · rw [show cwV n r = .tuple #[.int .i64 0, .bool false] from if_neg (by unfold cwOk; rw [decide_eq_false (fun h => h7 h.2), Bool.false_and]; decide)]
      have h7' : (7 : Int) < n := by omega
      obtain ⟨p, hp⟩ : ∃ p, p = scN n.toNat r.toNat := ⟨_, rfl⟩
      obtain ⟨q, hq⟩ : ∃ q, q = scD n.toNat r.toNat := ⟨_, rfl⟩
      rw [← hp, ← hq] at CH
      clear hs h7 hp hq
      go_enter Try.func52, Try.ntmps52
      go_wp2_with fail
      refine (CH.out _).mono ?_
      rintro e w1 ⟨rfl, b1⟩
      have B1 := Lib.hid (b1.alloc b1.size (.cells #[.int .i64 p, .int .i64 q] 39))
      clear b1
      go_wp2_with fail
      go_ret2
      exact ⟨rfl, B1.out⟩
end Go.Proofs.Ytnpiciabpgkiiad
namespace Go.Proofs.Ytnpiciabpgkiiad
open Go.RowKit
set_option linter.unusedVariables false
theorem bigNo (n c : Nat) (p : Option Addr) (w : World) (hn : n ≤ 65536) :
    Calls Try.prog 12 #[.slice p n c] w fun e w' => e = .returned (.bool false) ∧ w = w' := by
  have h : decide ((65536 : Int) < (n : Int)) = false := decide_eq_false (by omega)
  go_enter Try.func12, Try.ntmps12
  go_wp2_with fail
  go_ret
  exact ⟨rfl, rfl⟩
theorem bigYes (n c : Nat) (p : Option Addr) (w : World) (hn : 65536 < n) (hn2 : n ≤ maxLen) :
    Calls Try.prog 12 #[.slice p n c] w fun e w' => e = .returned (.bool true) ∧ w = w' := by
  have h : decide ((65536 : Int) < (n : Int)) = true := decide_eq_true (by omega)
  go_enter Try.func12, Try.ntmps12
  go_wp2_with fail
  go_ret
  exact ⟨rfl, rfl⟩
set_option maxHeartbeats 1000000 in
theorem lessV (a b c d : Int) (w : World) (h1 : -2000000000000000000 ≤ a * d ∧ a * d ≤ 2000000000000000000) (h2 : -2000000000000000000 ≤ c * b ∧ c * b ≤ 2000000000000000000) :
    Calls Try.prog 55 #[.agg #[.int .i64 a, .int .i64 b], .agg #[.int .i64 c, .int .i64 d]] w (Gives (.bool (decide (a * d < c * b))) w) := by
  have W1 : IntKind.i64.wrap (a * d) = a * d := IntWalk.i64_in _ (by omega)
  have W2 : IntKind.i64.wrap (c * b) = c * b := IntWalk.i64_in _ (by omega)
  have B2 : Below w.heap.size w ((w.alloc (.cells #[.int .i64 a, .int .i64 b] 39)).alloc (.cells #[.int .i64 c, .int .i64 d] 39)) := ((Below.refl w.heap.size w).alloc (Nat.le_refl _) _).alloc (by simp) _
  clear h1 h2
  go_enter Try.func55, Try.ntmps55
  go_wp2_with fail
  go_ret
  exact ⟨rfl, B2⟩
set_option maxRecDepth 100000 in
set_option maxHeartbeats 2000000 in
theorem pairsV (n : Nat) (fs : List Int) (v u : Value) (lo hi lo' hi' : Nat) (w : World) (hn : n ≤ 1048576) (hp : OwnQ w lo hi v n fs) (hq : OwnQ w lo' hi' u n fs) :
    Calls Try.prog 54 #[v, u] w (Gives (.bool true) w) := by
  obtain ⟨p, c, rfl, hP⟩ := hp.opened
  obtain ⟨p', c', rfl, hQ⟩ := hq.opened
  have P := Lib.hid hP
  have Q := Lib.hid hQ
  have R1 := hp.room
  have R2 := hq.room
  clear hP hQ hp hq
  go_enter Try.func54, Try.ntmps54
  go_wp2_with fail
  go_loopg [5] n (fun gg i wr => ∃ k : Nat, k ≤ n ∧ n - k ≤ gg ∧ i = .int .i64 k ∧ Hid (Below w.heap.size w wr))
  case atStart => exact ⟨0, by omega, by omega, rfl, Lib.hid (Below.refl _ _)⟩
  case round =>
    obtain ⟨k, hk, hgg, rfl, HB⟩ := hrel
    by_cases hlt : k < n
    · have i1 : (k : Int) < (n : Int) := by omega
      have i2 : 0 ≤ (k : Int) := by omega
      obtain ⟨g, rfl, _, hg2, a0⟩ := P.out (k * 2) (by omega)
      obtain ⟨g', hgg', _, _, a1⟩ := P.out (k * 2 + 1) (by omega)
      obtain rfl : g = g' := by injection hgg' with h; injection h
      obtain ⟨g2, rfl, _, hh2, b0⟩ := Q.out (k * 2) (by omega)
      obtain ⟨g2', hgg2', _, _, b1⟩ := Q.out (k * 2 + 1) (by omega)
      obtain rfl : g2 = g2' := by injection hgg2' with h; injection h
      have a0' : wr.drew.cell? ⟨g, k * 2, none⟩ = some (.int .i64 (fs.getD (k * 2) 0)) := (HB.out.cell (p := ⟨g, k * 2, none⟩) (show g < w.heap.size by omega)).trans a0
      have a1' : wr.drew.cell? ⟨g, k * 2 + 1, none⟩ = some (.int .i64 (fs.getD (k * 2 + 1) 0)) := (HB.out.cell (p := ⟨g, k * 2 + 1, none⟩) (show g < w.heap.size by omega)).trans a1
      have b0' : wr.drew.cell? ⟨g2, k * 2, none⟩ = some (.int .i64 (fs.getD (k * 2) 0)) := (HB.out.cell (p := ⟨g2, k * 2, none⟩) (show g2 < w.heap.size by omega)).trans b0
      have b1' : wr.drew.cell? ⟨g2, k * 2 + 1, none⟩ = some (.int .i64 (fs.getD (k * 2 + 1) 0)) := (HB.out.cell (p := ⟨g2, k * 2 + 1, none⟩) (show g2 < w.heap.size by omega)).trans b1
      generalize fs.getD (k * 2) 0 = x at *
      generalize fs.getD (k * 2 + 1) 0 = y at *
      have ep := fun w => eq_pair x y w
      clear a0 a1 b0 b1 hgg' hgg2'
      go_wp2_with fail
      go_region
      all_goals
        go_wp2_with fail
        go_roundg (n - (k + 1))
        case rel => exact ⟨k + 1, by omega, by omega, by go_num, Lib.hid (by first | exact HB.out | exact below_drew HB.out)⟩
        case measure => omega
    · obtain rfl : k = n := by omega
      go_wp2_with fail
      go_ret
      exact ⟨rfl, HB.out⟩
end Go.Proofs.Ytnpiciabpgkiiad
namespace Go.Proofs.Ytnpiciabpgkiiad
open Go.RowKit
set_option linter.unusedVariables false
theorem byteInfo9 : (Try.prog.info? 5).map (fun i => (i.zero, i.size, i.bytes)) = some (some (.int .u8 0), 1, 1) := by kernel_rfl
/-- The byte at a place. -/
def byteI (w : World) (b o : Nat) : Int := match w.cell? ⟨b, o, none⟩ with | some (.int .u8 z) => z | _ => 0
theorem byteI_at {w : World} {B n b off : Nat} (h : BytesAt w B (some ⟨b, off, none⟩) n) {i : Nat} (hi : i < n) : w.cell? ⟨b, off + i, none⟩ = some (.int .u8 (byteI w b (off + i))) ∧ (0 ≤ byteI w b (off + i) ∧ byteI w b (off + i) ≤ 255) ∧ b < B := by
  obtain ⟨b', off', z, e, hb, z0, z1, hc⟩ := h i hi
  injection e with e
  injection e with e1 e2 _
  subst e1; subst e2
  have : byteI w b (off + i) = z := by unfold byteI; rw [hc]
  rw [this]
  exact ⟨hc, ⟨z0, z1⟩, hb⟩
/-- A row of bytes of a call's own is bytes. -/
theorem bytes_of_row {w : World} {lo m : Nat} {v : Value} {zs : List Int} (h : w.ownsRow lo 5 1 v m (zs.map (.int .u8))) (hm : 0 < m) (hz : ∀ z ∈ zs, 0 ≤ z ∧ z ≤ 255) (hl : zs.length = m) : ∃ g cap, v = .slice (some ⟨g, 0, none⟩) m cap ∧ BytesAt w w.heap.size (some ⟨g, 0, none⟩) m ∧ m ≤ cap := by
  rcases h.2 with ⟨h1, h2⟩ | ⟨g, cap, cur, h1, hb, hg, hc, hmx, _⟩
  · omega
  · subst h1
    refine ⟨g, cap, rfl, fun i hi => ?_, hc⟩
    have hlt := (h.lt g (by simp [Value.ownBlock])).2
    have := h.cellAt i (by omega)
    rw [List.getElem?_map, List.getElem?_eq_getElem (by omega)] at this
    have hmem := hz _ (List.getElem_mem (show i < zs.length by omega))
    exact ⟨g, 0, zs[i], rfl, hlt, hmem.1, hmem.2, by rw [Nat.zero_add]; exact this⟩
theorem one_byte (w : World) (x : Int) : ∀ (j : Nat) (u : Value), [Value.int .u8 x][j]? = some u → (w.alloc (.cells #[.int .u8 x] 5)).cell? ((⟨w.heap.size, 0, none⟩ : Addr).add j) = some u := by
  intro j u hu
  have : j = 0 := by
    have := (List.getElem?_eq_some_iff.1 hu).1
    simpa using this
  subst this
  simp at hu
  subst hu
  rw [Addr.add_lit, Nat.zero_add]
  exact (cell_of_heap (o := 0) (alloc_heap w _) rfl).1
set_option maxRecDepth 100000 in
set_option maxHeartbeats 2000000 in
theorem cutV2 (n c b off : Nat) (w : World) (hn : n ≤ 65536) (h2 : 2 ≤ n) (hc : n ≤ c) (hB : BytesAt w w.heap.size (some ⟨b, off, none⟩) n) :
    Calls Try.prog 19 #[.slice (some ⟨b, off, none⟩) n c, .int .i64 1] w fun e w' => ∃ g cap, e = .returned (.slice (some ⟨g, 0, none⟩) n cap) ∧ n ≤ cap ∧ BytesAt w' w'.heap.size (some ⟨g, 0, none⟩) n ∧ Below w.heap.size w w' := by
  obtain ⟨i0, hif, hz0, hz1, hz2⟩ := info_parts byteInfo9
  have HIF := Lib.hid hif
  obtain ⟨zs, hzs⟩ : ∃ zs, zs = (List.range (n - 1)).map (fun i => byteI w b (off + (1 + i))) := ⟨_, rfl⟩
  have ZL : zs.length = n - 1 := by rw [hzs]; simp
  have ZB := Lib.hid (show ∀ z ∈ zs, 0 ≤ z ∧ z ≤ 255 from by
    intro z hz
    rw [hzs] at hz
    obtain ⟨i, hi, rfl⟩ := List.mem_map.1 hz
    rw [List.mem_range] at hi
    exact (byteI_at hB (i := 1 + i) (by omega)).2.1)
  have hbw : b < w.heap.size := (byteI_at hB (i := 0) (by omega)).2.2
  have SRC : ∀ (j : Nat) (u : Value), (zs.map (Value.int .u8))[j]? = some u → w.cell? ((⟨b, off + 1, none⟩ : Addr).add j) = some u := by
    intro j u hu
    have hj : j < n - 1 := by
      have := (List.getElem?_eq_some_iff.1 hu).1
      simp [ZL] at this
      exact this
    rw [hzs, List.map_map, List.getElem?_map, List.getElem?_range hj] at hu
    injection hu with hu
    rw [← hu, Addr.add_lit, show off + 1 + j = off + (1 + j) by omega]
    exact (byteI_at hB (i := 1 + j) (by omega)).1
  obtain ⟨wa, hwa⟩ : ∃ wa, wa = w.alloc (.cells #[] 5) := ⟨_, rfl⟩
  have O1 : wa.ownsRow w.heap.size 5 1 (.slice (some ⟨w.heap.size, 0, none⟩) 0 0) 0 [] := by
    rw [hwa]
    exact ⟨rfl, .inr ⟨w.heap.size, 0, #[], rfl, Nat.le_refl _, alloc_heap w _, Nat.le_refl _, Nat.zero_le _, rfl, rfl⟩⟩
  have BA : Below w.heap.size w wa := by rw [hwa]; exact (Below.refl w.heap.size w).alloc (Nat.le_refl _) _
  have SA : wa.heap.size = w.heap.size + 1 := by rw [hwa]; simp
  have SRC1 := Lib.hid (fun (j : Nat) (u : Value) (hu : (zs.map (Value.int .u8))[j]? = some u) => show wa.cell? ((⟨b, off + 1, none⟩ : Addr).add j) = some u from by
    have := SRC j u hu
    rw [Addr.add_lit] at this ⊢
    exact (BA.cell (p := ⟨b, off + 1 + j, none⟩) hbw).trans this)
  have c1 : ¬ c = 1 := by omega
  have c2 : ¬ (n : Int) < 1 := by omega
  have c3 : ¬ (1 : Int) > (n : Int) := by omega
  have c4 : 1 ≤ n := by omega
  have c5 : (1 : Int) ≤ (n : Int) := by omega
  clear hzs SRC hB hif
  go_enter Try.func19, Try.ntmps19
  go_upto_region 3 with fail
  have SZ : w.heap.size ≤ wa.heap.size := by omega
  subst hwa
  go_wp2_with (first
    | (at_builtin; refine wpList_append_own_at _ rfl _ _ 22 rfl w.heap.size 5 i0 (.int .u8 0) 1 1 Try.underlying22 HIF.out hz0 hz1 hz2 rfl (by decide) _ 0 [] rfl O1 ⟨b, off + 1, none⟩ (n - 1) (c - 1) (zs.map (.int .u8)) rfl (by simp [ZL]) SRC1.out (fun u hu => by obtain ⟨z, _, rfl⟩ := List.mem_map.1 hu; rfl) (by unfold maxLen; omega) (by omega) SZ ?_; intro v1 w1 hown1 hgrow1 hnil1 hloc1; (have hs1 : w.heap.size ≤ w1.heap.size := by have := hgrow1.size; omega))
    | (at_builtin; refine wpList_append_own_at _ rfl _ _ 22 rfl w.heap.size 5 i0 (.int .u8 0) 1 1 Try.underlying22 HIF.out hz0 hz1 hz2 rfl (by decide) _ (0 + (n - 1)) ([] ++ zs.map (.int .u8)) rfl (hown1.alloc _) ⟨w1.heap.size, 0, none⟩ 1 1 [.int .u8 1] rfl rfl (one_byte w1 1) (fun u hu => by simp at hu; subst hu; rfl) (by unfold maxLen; omega) (by omega) (by simp; omega) ?_; intro v2 w2 hown2 hgrow2 hnil2 hloc2))
  have hw2 : w2.ownsRow w.heap.size 5 1 v2 n ((zs ++ [1]).map (.int .u8)) := by
    have := hown2
    rw [List.nil_append, show 0 + (n - 1) + 1 = n by omega] at this
    rw [List.map_append]
    exact this
  obtain ⟨g, cap, rfl, hby, hcap⟩ := bytes_of_row hw2 (by omega) (fun z hz => by
    rcases List.mem_append.1 hz with h | h
    · exact ZB.out z h
    · simp at h; subst h; omega) (by simp [ZL]; omega)
  have FIN := Lib.hid (show Below w.heap.size w w2 from ((BA.grown hgrow1 SZ (fun q hq => (O1.lt q hq).1)).alloc hs1 _).grown hgrow2 (by simp; omega) (fun q hq => (hown1.lt q hq).1))
  clear hown1 hown2 hgrow1 hgrow2 hnil1 hnil2 hloc1 hloc2 hw2
  go_ret
  exact ⟨g, cap, rfl, hcap, hby, FIN.out⟩
set_option maxRecDepth 100000 in
set_option maxHeartbeats 2000000 in
theorem cutVn (c : Nat) (w : World) :
    Calls Try.prog 19 #[.slice none 0 c, .int .i64 1] w fun e w' => ∃ g cap, e = .returned (.slice (some ⟨g, 0, none⟩) 1 cap) ∧ 1 ≤ cap ∧ BytesAt w' w'.heap.size (some ⟨g, 0, none⟩) 1 ∧ Below w.heap.size w w' := by
  obtain ⟨i0, hif, hz0, hz1, hz2⟩ := info_parts byteInfo9
  have HIF := Lib.hid hif
  have O1 : (w.alloc (.cells #[] 5)).ownsRow w.heap.size 5 1 (.slice (some ⟨w.heap.size, 0, none⟩) 0 0) 0 [] :=
    ⟨rfl, .inr ⟨w.heap.size, 0, #[], rfl, Nat.le_refl _, alloc_heap w _, Nat.le_refl _, Nat.zero_le _, rfl, rfl⟩⟩
  have OB := one_byte (w.alloc (.cells #[] 5)) 0
  have SA : (w.alloc (.cells #[] 5)).heap.size = w.heap.size + 1 := by simp
  rw [SA] at OB
  have BA : Below w.heap.size w (w.alloc (.cells #[] 5)) := (Below.refl w.heap.size w).alloc (Nat.le_refl _) _
  have SZ : w.heap.size ≤ ((w.alloc (.cells #[] 5)).alloc (.cells #[.int .u8 0] 5)).heap.size := by simp; omega
  have SZ0 : w.heap.size ≤ (w.alloc (.cells #[] 5)).heap.size := by simp
  clear hif
  go_enter Try.func19, Try.ntmps19
  go_wp2_with (at_builtin; refine wpList_append_own_at _ rfl _ _ 22 rfl w.heap.size 5 i0 (.int .u8 0) 1 1 Try.underlying22 HIF.out hz0 hz1 hz2 rfl (by decide) _ 0 [] rfl (O1.alloc _) ⟨w.heap.size + 1, 0, none⟩ 1 1 [.int .u8 0] rfl rfl OB (fun u hu => by simp at hu; subst hu; rfl) (by unfold maxLen; omega) (by omega) SZ ?_; intro v2 w2 hown2 hgrow2 hnil2 hloc2)
  all_goals
    have hw2 : w2.ownsRow w.heap.size 5 1 v2 1 (([0] : List Int).map (.int .u8)) := hown2
    obtain ⟨g, cap, rfl, hby, hcap⟩ := bytes_of_row hw2 (by omega) (fun z hz => by simp at hz; subst hz; omega) rfl
    have FIN := Lib.hid (show Below w.heap.size w w2 from (BA.alloc SZ0 _).grown hgrow2 SZ (fun q hq => (O1.lt q hq).1))
    clear hown2 hgrow2 hnil2 hloc2 hw2
    go_ret
    exact ⟨g, cap, rfl, hcap, hby, FIN.out⟩
set_option maxRecDepth 100000 in
set_option maxHeartbeats 2000000 in
theorem cutVs (c : Nat) (a : Addr) (w : World) :
    Calls Try.prog 19 #[.slice (some a) 0 c, .int .i64 1] w fun e w' => ∃ g cap, e = .returned (.slice (some ⟨g, 0, none⟩) 1 cap) ∧ 1 ≤ cap ∧ BytesAt w' w'.heap.size (some ⟨g, 0, none⟩) 1 ∧ Below w.heap.size w w' := by
  obtain ⟨i0, hif, hz0, hz1, hz2⟩ := info_parts byteInfo9
  have HIF := Lib.hid hif
  have O1 : (w.alloc (.cells #[] 5)).ownsRow w.heap.size 5 1 (.slice (some ⟨w.heap.size, 0, none⟩) 0 0) 0 [] :=
    ⟨rfl, .inr ⟨w.heap.size, 0, #[], rfl, Nat.le_refl _, alloc_heap w _, Nat.le_refl _, Nat.zero_le _, rfl, rfl⟩⟩
  have OB := one_byte (w.alloc (.cells #[] 5)) 0
  have SA : (w.alloc (.cells #[] 5)).heap.size = w.heap.size + 1 := by simp
  rw [SA] at OB
  have BA : Below w.heap.size w (w.alloc (.cells #[] 5)) := (Below.refl w.heap.size w).alloc (Nat.le_refl _) _
  have SZ : w.heap.size ≤ ((w.alloc (.cells #[] 5)).alloc (.cells #[.int .u8 0] 5)).heap.size := by simp; omega
  have SZ0 : w.heap.size ≤ (w.alloc (.cells #[] 5)).heap.size := by simp
  clear hif
  go_enter Try.func19, Try.ntmps19
  go_wp2_with (at_builtin; refine wpList_append_own_at _ rfl _ _ 22 rfl w.heap.size 5 i0 (.int .u8 0) 1 1 Try.underlying22 HIF.out hz0 hz1 hz2 rfl (by decide) _ 0 [] rfl (O1.alloc _) ⟨w.heap.size + 1, 0, none⟩ 1 1 [.int .u8 0] rfl rfl OB (fun u hu => by simp at hu; subst hu; rfl) (by unfold maxLen; omega) (by omega) SZ ?_; intro v2 w2 hown2 hgrow2 hnil2 hloc2)
  all_goals
    have hw2 : w2.ownsRow w.heap.size 5 1 v2 1 (([0] : List Int).map (.int .u8)) := hown2
    obtain ⟨g, cap, rfl, hby, hcap⟩ := bytes_of_row hw2 (by omega) (fun z hz => by simp at hz; subst hz; omega) rfl
    have FIN := Lib.hid (show Below w.heap.size w w2 from (BA.alloc SZ0 _).grown hgrow2 SZ (fun q hq => (O1.lt q hq).1))
    clear hown2 hgrow2 hnil2 hloc2 hw2
    go_ret
    exact ⟨g, cap, rfl, hcap, hby, FIN.out⟩
set_option maxRecDepth 100000 in
set_option maxHeartbeats 2000000 in
theorem cutV1 (c b off : Nat) (w : World) (hc : 1 ≤ c) :
    Calls Try.prog 19 #[.slice (some ⟨b, off, none⟩) 1 c, .int .i64 1] w fun e w' => ∃ g cap, e = .returned (.slice (some ⟨g, 0, none⟩) 1 cap) ∧ 1 ≤ cap ∧ BytesAt w' w'.heap.size (some ⟨g, 0, none⟩) 1 ∧ Below w.heap.size w w' := by
  obtain ⟨i0, hif, hz0, hz1, hz2⟩ := info_parts byteInfo9
  have HIF := Lib.hid hif
  have O1 : (w.alloc (.cells #[] 5)).ownsRow w.heap.size 5 1 (.slice (some ⟨w.heap.size, 0, none⟩) 0 0) 0 [] :=
    ⟨rfl, .inr ⟨w.heap.size, 0, #[], rfl, Nat.le_refl _, alloc_heap w _, Nat.le_refl _, Nat.zero_le _, rfl, rfl⟩⟩
  have OB := one_byte (w.alloc (.cells #[] 5)) 1
  have SA : (w.alloc (.cells #[] 5)).heap.size = w.heap.size + 1 := by simp
  rw [SA] at OB
  have BA : Below w.heap.size w (w.alloc (.cells #[] 5)) := (Below.refl w.heap.size w).alloc (Nat.le_refl _) _
  have SZ : w.heap.size ≤ ((w.alloc (.cells #[] 5)).alloc (.cells #[.int .u8 1] 5)).heap.size := by simp; omega
  have SZ0 : w.heap.size ≤ (w.alloc (.cells #[] 5)).heap.size := by simp
  clear hif
  go_enter Try.func19, Try.ntmps19
  go_wp2_with (at_builtin; refine wpList_append_own_at _ rfl _ _ 22 rfl w.heap.size 5 i0 (.int .u8 0) 1 1 Try.underlying22 HIF.out hz0 hz1 hz2 rfl (by decide) _ 0 [] rfl (O1.alloc _) ⟨w.heap.size + 1, 0, none⟩ 1 1 [.int .u8 1] rfl rfl OB (fun u hu => by simp at hu; subst hu; rfl) (by unfold maxLen; omega) (by omega) SZ ?_; intro v2 w2 hown2 hgrow2 hnil2 hloc2)
  all_goals
    have hw2 : w2.ownsRow w.heap.size 5 1 v2 1 (([1] : List Int).map (.int .u8)) := hown2
    obtain ⟨g, cap, rfl, hby, hcap⟩ := bytes_of_row hw2 (by omega) (fun z hz => by simp at hz; subst hz; omega) rfl
    have FIN := Lib.hid (show Below w.heap.size w w2 from (BA.alloc SZ0 _).grown hgrow2 SZ (fun q hq => (O1.lt q hq).1))
    clear hown2 hgrow2 hnil2 hloc2 hw2
    go_ret
    exact ⟨g, cap, rfl, hcap, hby, FIN.out⟩
/-- The cut of any code. -/
theorem cutAny (n c : Nat) (p : Option Addr) (w : World) (hn : n ≤ 65536) (hc : n ≤ c) (hB : BytesAt w w.heap.size p n) :
    Calls Try.prog 19 #[.slice p n c, .int .i64 1] w fun e w' => ∃ g m cap, e = .returned (.slice (some ⟨g, 0, none⟩) m cap) ∧ m ≤ 65536 ∧ m ≤ cap ∧ BytesAt w' w'.heap.size (some ⟨g, 0, none⟩) m ∧ Below w.heap.size w w' := by
  by_cases h0 : n = 0
  · subst h0
    cases p with
    | none => exact (cutVn c w).mono (fun e w' ⟨g, cap, he, h1, h2, h3⟩ => ⟨g, 1, cap, he, by omega, h1, h2, h3⟩)
    | some a => exact (cutVs c a w).mono (fun e w' ⟨g, cap, he, h1, h2, h3⟩ => ⟨g, 1, cap, he, by omega, h1, h2, h3⟩)
  · obtain ⟨b, off, z, rfl, _⟩ := hB 0 (by omega)
    by_cases h1 : n = 1
    · subst h1
      exact (cutV1 c b off w hc).mono (fun e w' ⟨g, cap, he, h1, h2, h3⟩ => ⟨g, 1, cap, he, by omega, h1, h2, h3⟩)
    · exact (cutV2 n c b off w hn (by omega) hc hB).mono (fun e w' ⟨g, cap, he, h1, h2, h3⟩ => ⟨g, n, cap, he, hn, h1, h2, h3⟩)
end Go.Proofs.Ytnpiciabpgkiiad
