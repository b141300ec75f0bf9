/- Drawing one of a list, with what all of them keep; and people. -/
import Derived.Test.YtmidlabgmmejbabCurA
import Derived.Test.YtmidlabgmmejbabInS
import Derived.Deep.DeepCutAuto

namespace Go.Proofs.Ytmidlabgmmejbab
open Go.RowKit
set_option linter.unusedVariables false
theorem new_cell' {w : World} {B : Nat} {xs : Array Value} {t : TypeId} {i : Nat} {v : Value} (hb : B = w.heap.size) (h : xs[i]? = some v) : (w.alloc (.cells xs t)).cell? ⟨B, i, none⟩ = some v := by
  subst hb; exact new_cell _ _ _ _ _ h
theorem among_P (a n c k : Nat) (p : Option Addr) (g m cap : Nat) (w : World) (P : Int → Prop) (hm : 1 ≤ m) (hm2 : m ≤ 1000000) (hk : k ≤ 900000) (hn : n ≤ 65536) (hC : CurAt w a p n c k) (hB : BytesAt w a p n)
    (hga : g ≠ a) (hs : ∀ i : Nat, i < m → ∃ z : Int, P z ∧ w.cell? ⟨g, i, none⟩ = some (.int .i64 z)) :
    Calls Try.prog 80 #[.pointer (some ⟨a, 0, none⟩), .slice (some ⟨g, 0, none⟩) m cap] w fun e w' => (∃ z : Int, P z ∧ e = .returned (.int .i64 z)) ∧ CurPost w a p n c k 2 w' := by
  have PK := Lib.hid (pick_any a n c k p m w (by omega) (by omega) hk hn hC hB)
  have S := Lib.hid hs
  clear hC hB hs
  go_enter Try.func80, Try.ntmps80
  go_wp2_with fail
  refine PK.out.mono ?_
  rintro e w1 ⟨⟨r, r0, r1, rfl⟩, hp⟩
  obtain ⟨z, hz, hc⟩ := S.out r.toNat (by omega)
  have hc1 : w1.cell? ⟨g, r.toNat, none⟩ = some (.int .i64 z) := by
    rw [← hc]
    exact World.cell?_of_block (hp.2.block g (cell_room' hc) (fun e => by injection e; omega))
  have Q := Lib.hid hp
  have HZ := Lib.hid hz
  clear hp hc hz
  go_wp2_with fail
  go_ret
  exact ⟨⟨z, HZ.out, rfl⟩, Q.out⟩
theorem CurAt.kept {w w' : World} {a n c k : Nat} {p : Option Addr} {r : Option Nat} (h : CurAt w a p n c k) (hg : w.grownBy w' r) (hr : some a ≠ r) : CurAt w' a p n c k := by
  have hl := h.room
  obtain ⟨s, s0, s1, hh⟩ := h
  exact ⟨s, s0, s1, (hg.block a hl hr).trans hh⟩
theorem grown_own {w b d : World} {a : Nat} {r : Option Nat} (h : w.grownBy b (some a)) (hg : b.grownBy d r) (hr : ∀ q, r = some q → w.heap.size ≤ q) : w.grownBy d (some a) :=
  ⟨hg.os.trans h.os, hg.tape.trans h.tape, hg.output.trans h.output, Nat.le_trans h.size hg.size, fun i hi hne => (hg.block i (Nat.lt_of_lt_of_le hi h.size) (fun e => by have := hr i e.symm; omega)).trans (h.block i hi hne)⟩
end Go.Proofs.Ytmidlabgmmejbab
