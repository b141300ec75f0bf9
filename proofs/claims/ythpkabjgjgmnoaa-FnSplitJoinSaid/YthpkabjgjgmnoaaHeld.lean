/- The laws' marks at work: a row of texts is written into a slice's own memory, and found there again. -/
import Derived.Test.YthpkabjgjgmnoaaMark
import Derived.WalkKit
import Derived.ProofKit
import Derived.Outline
import Derived.Lib.Hide
import Derived.WalkSpells
import Derived.Deep.RegionHeld3
namespace Go.Proofs.Ythpkabjgjgmnoaa
open Go.RowKit
set_option linter.unusedVariables false
/-- The first j marks ahead of what else the row holds. -/
def marked (xs : List Value) (j : Nat) : List Value := (List.range j).map (fun i => Value.string (markB (i + 1))) ++ xs.drop j
theorem marked_zero (xs : List Value) : marked xs 0 = xs := by simp [marked]
theorem marked_set (xs : List Value) (j : Nat) (h : j < xs.length) : (marked xs j).set j (.string (markB (j + 1))) = marked xs (j + 1) := by
  unfold marked
  have hl : ((List.range j).map (fun i => Value.string (markB (i + 1)))).length = j := by simp
  rw [List.set_append_right _ _ (by omega), hl, Nat.sub_self, List.range_succ, List.map_append, List.append_assoc]
  congr 1
  rw [List.drop_eq_getElem_cons h]; rfl
theorem marked_all (xs : List Value) (n : Nat) (h : xs.length = n) : marked xs n = (List.range n).map (fun i => Value.string (markB (i + 1))) := by
  unfold marked; rw [List.drop_eq_nil_of_le (by omega)]; simp
theorem grown_of_below {w w' : World} (h : Below w.heap.size w w') (r : Option Nat) : w.grownBy w' r := ⟨h.os, h.tape, h.output, h.size, fun i hi _ => h.block i hi⟩
theorem grown_next {a b c : World} {r : Option Nat} (h : a.grownBy b r) (k : b.grownBy c r) : a.grownBy c r :=
  ⟨k.os.trans h.os, k.tape.trans h.tape, k.output.trans h.output, Nat.le_trans h.size k.size, fun i hi hne => (k.block i (Nat.lt_of_lt_of_le hi h.size) hne).trans (h.block i hi hne)⟩
set_option maxHeartbeats 1000000 in
theorem markS (g n cap base : Nat) (xs : List Value) (w : World) (hn : n ≤ 900000) (hown : w.ownsRow base 9 1 (.slice (some ⟨g, 0, none⟩) n cap) n xs) (hstr : ∀ v ∈ xs, ∃ s : ByteArray, v = .string s) :
    Calls Try.prog 19 #[.slice (some ⟨g, 0, none⟩) n cap, .int .i64 1] w fun e w' => e = .returned (.int .i64 (1 + (n : Int))) ∧
      w'.ownsRow base 9 1 (.slice (some ⟨g, 0, none⟩) n cap) n ((List.range n).map (fun i => Value.string (markB (i + 1)))) ∧ w.grownBy w' (some g) := by
  have hlen : xs.length = n := by have := hown.1; omega
  have START : Hid (w.ownsRow base 9 1 (.slice (some ⟨g, 0, none⟩) n cap) n (marked xs 0)) := by rw [marked_zero]; exact Lib.hid hown
  have STR := Lib.hid hstr
  have LEN := Lib.hid hlen
  clear hown hstr hlen
  go_enter Try.func19, Try.ntmps19
  go_wp2
  go_loopw [1, 5] (fun q i wr => ∃ j : Nat, j ≤ n ∧ i = .int .i64 j ∧ q = .int .i64 (1 + (j : Int)) ∧ Hid (wr.ownsRow base 9 1 (.slice (some ⟨g, 0, none⟩) n cap) n (marked xs j)) ∧ w.grownBy wr (some g)) (fun _ i _ => n - (intOf i).toNat)
  case atStart => exact ⟨0, Nat.zero_le _, rfl, rfl, START, World.grownBy.refl _ _⟩
  case round =>
    obtain ⟨j, hj, rfl, rfl, hown, hg⟩ := hrel
    by_cases hlt : j < n
    · have MT : Hid (Calls Try.prog 34 #[.int .i64 (1 + (j : Int))] wr fun e w' => e = .returned (.string (markB (1 + j))) ∧ Below wr.heap.size wr w') := by
        have := markText_any (1 + j) wr (by omega) (by omega)
        rw [show ((1 + j : Nat) : Int) = 1 + (j : Int) by omega] at this; exact Lib.hid this
      have G := Lib.hid hg
      have i0 : (0 : Int) ≤ (j : Int) := by omega
      have i1 : (j : Int) < (n : Int) := by omega
      clear hg
      go_wp2_with fail
      refine MT.out.mono ?_
      rintro e w1 ⟨rfl, hb⟩
      have own1 := hown.out.kept (grown_of_below hb none) (.inr (by simp [Value.ownBlock]))
      have hcell : ∃ s : ByteArray, w1.cell? ⟨g, j, none⟩ = some (.string s) := by
        rw [own1.cellAt j (by omega)]
        unfold marked
        rw [List.getElem?_append_right (by simp), List.length_map, List.length_range, Nat.sub_self, List.getElem?_drop, Nat.add_zero, List.getElem?_eq_getElem (by rw [LEN.out]; exact hlt)]
        obtain ⟨s, hs⟩ := STR.out (xs[j]'(by rw [LEN.out]; exact hlt)) (List.getElem_mem _)
        exact ⟨s, by rw [hs]⟩
      obtain ⟨s, hc⟩ := hcell
      have hf := own1.frozenAt j
      have st := own1.stored j (.string (markB (1 + j)))
      have NEW : Hid ((w1.setCell ⟨g, j, none⟩ (.string (markB (1 + j)))).ownsRow base 9 1 (.slice (some ⟨g, 0, none⟩) n cap) n (marked xs (j + 1))) := by
        rw [← marked_set xs j (by rw [LEN.out]; exact hlt), Nat.add_comm j 1]; exact Lib.hid st.1
      have G2 := Lib.hid (grown_next G.out (grown_next (grown_of_below hb (some g)) st.2))
      clear st own1 hb
      go_wp2_with fail
      go_roundw
      case rel => exact ⟨j + 1, by omega, by go_num, by go_num, NEW, G2.out⟩
      case measure => simp [intOf]; omega
    · have hj2 : j = n := by omega
      have FIN : Hid (wr.ownsRow base 9 1 (.slice (some ⟨g, 0, none⟩) n cap) n ((List.range n).map (fun i => Value.string (markB (i + 1))))) := by
        have := hown.out
        rw [hj2, marked_all xs n LEN.out] at this
        exact Lib.hid this
      have EQ := Lib.hid hj2
      clear hj2
      go_wp2_with fail
      go_ret
      exact ⟨by rw [EQ.out]; rfl, FIN.out, hg⟩
set_option maxHeartbeats 1000000 in
theorem heldS (g n cap : Nat) (w : World) (hn : n ≤ 900000) (hgl : g < w.heap.size) (hc : ∀ j : Nat, j < n → w.cell? ⟨g, j, none⟩ = some (.string (markB (j + 1)))) :
    Calls Try.prog 20 #[.slice (some ⟨g, 0, none⟩) n cap, .int .i64 1] w fun e w' => e = .returned (.int .i64 (1 + (n : Int))) ∧ Below w.heap.size w w' := by
  have CC := Lib.hid hc
  clear hc
  go_enter Try.func20, Try.ntmps20
  go_wp2
  go_loopw [1, 5] (fun q i wr => ∃ j : Nat, j ≤ n ∧ i = .int .i64 j ∧ q = .int .i64 (1 + (j : Int)) ∧ Below w.heap.size w wr) (fun _ i _ => n - (intOf i).toNat)
  case atStart => exact ⟨0, Nat.zero_le _, rfl, rfl, Below.refl _ _⟩
  case round =>
    obtain ⟨j, hj, rfl, rfl, hb⟩ := hrel
    by_cases hlt : j < n
    · have hcw : wr.cell? ⟨g, j, none⟩ = some (.string (markB (j + 1))) := (hb.cell (p := ⟨g, j, none⟩) hgl).trans (CC.out j hlt)
      have hgw : g < wr.heap.size := Nat.lt_of_lt_of_le hgl hb.size
      have BB := Lib.hid hb
      have MT : Hid (∀ W : World, W.cell? ⟨g, j, none⟩ = some (.string (markB (j + 1))) → Below wr.heap.size wr W → Calls Try.prog 34 #[.int .i64 (1 + (j : Int))] W fun e w' => e = .returned (.string (markB (j + 1))) ∧ (w'.cell? ⟨g, j, none⟩ = some (.string (markB (j + 1))) ∧ Below wr.heap.size wr w')) := Lib.hid (fun W hW hBW => by
        have := markText_any (j + 1) W (by omega) (by omega)
        rw [show ((j + 1 : Nat) : Int) = 1 + (j : Int) by omega] at this
        exact this.mono fun _ w' ⟨he, hb⟩ => ⟨he, (hb.cell (p := ⟨g, j, none⟩) (Nat.lt_of_lt_of_le hgw hBW.size)).trans hW, hBW.trans (hb.mono hBW.size)⟩)
      have i0 : (0 : Int) ≤ (j : Int) := by omega
      have i1 : (j : Int) < (n : Int) := by omega
      clear hb
      go_wp2_with fail
      go_region_held3 (fun w' => w'.cell? ⟨g, j, none⟩ = some (.string (markB (j + 1))) ∧ Below wr.heap.size wr w')
        (first | exact ⟨hcw, (Below.refl _ wr).drew⟩ | exact hs1 | go_keep)
        (first | (go_at_call 34; refine (MT.out _ (by first | assumption | exact hcw) (by first | assumption | exact (Below.refl _ wr).drew)).mono ?_; rintro e w1 ⟨rfl, hs1⟩))
      have FIN := Lib.hid (BB.out.trans (hs1.2.mono BB.out.size))
      clear hs1
      go_wp2_with fail
      go_roundw
      case rel => exact ⟨j + 1, by omega, by go_num, by go_num, FIN.out⟩
      case measure => simp [intOf]; omega
    · have hj2 : j = n := by omega
      have EQ := Lib.hid hj2
      clear hj2
      go_wp2_with fail
      go_ret
      exact ⟨by rw [EQ.out]; rfl, hb⟩
end Go.Proofs.Ythpkabjgjgmnoaa
