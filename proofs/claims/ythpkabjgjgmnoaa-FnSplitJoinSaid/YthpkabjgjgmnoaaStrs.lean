/- Slices of strings, as the laws' helpers read and make them: their sizes, a copy of them, whether two are alike. -/
import Derived.Test.YthpkabjgjgmnoaaChecked
import Derived.Test.YthpkabjgjgmnoaaStr0
import Derived.WalkKit
import Derived.ProofKit
import Derived.Outline
import Derived.Lib.Hide
import Derived.OwnWalk
import Derived.Laws.AppendOwn
import Derived.Laws.OwnMore
import Derived.WalkSmall
import Derived.WalkSpells
import Derived.Deep.QuietTactic
import Derived.BigQuiet
namespace Go.Proofs.Ythpkabjgjgmnoaa
open Go.RowKit
/-- How far a budget reaches: what is left is told only if all has been paid. -/
def Paid (ss : List ByteArray) (w : World) (e : Ending) (w' : World) : Prop := ∃ r : Int, e = .returned (.int .i64 r) ∧ (0 ≤ r → ss.length + bulkL ss ≤ 1048576) ∧ w = w'
set_option maxHeartbeats 400000 in
theorem szS (ss : List ByteArray) (p : Option Addr) (cap B : Nat) (w : World) (hn : ss.length ≤ maxLen) (hz : ∀ s ∈ ss, s.size ≤ maxLen) (hS : StrsAt w B p ss) :
    Calls Try.prog 21 #[.slice p ss.length cap, .int .i64 1048576] w (Paid ss w) := by
  unfold maxLen at hn
  have S := Lib.hid hS
  have Z := Lib.hid hz
  clear hS hz
  by_cases h0 : 1048576 < ss.length
  · go_enter Try.func21, Try.ntmps21
    go_wp2
    go_ret
    exact ⟨-1, rfl, by omega, rfl⟩
  · go_enter Try.func21, Try.ntmps21
    go_wp2
    go_loop [1, 5] (fun l i => ∃ k : Nat, k ≤ ss.length ∧ i = .int .i64 k ∧ ss.length + bulkL (ss.take k) ≤ 1048576 ∧ l = .int .i64 (1048576 - ((ss.length : Int) + (bulkL (ss.take k) : Int)))) (fun _ i => ss.length - (intOf i).toNat)
    case atStart => exact ⟨0, Nat.zero_le _, rfl, by simp [bulkL]; omega, by simp [bulkL]⟩
    case round =>
      obtain ⟨k, hk, rfl, hle, rfl⟩ := hrel
      by_cases hlt : k < ss.length
      · obtain ⟨b, off, rfl, _, hc⟩ := S.out.at_ hlt
        have BT := Lib.hid (bulkL_take ss k hlt)
        have hm := bulkL_mono ss (k + 1)
        have hxz := Z.out ss[k] (List.getElem_mem _)
        unfold maxLen at hxz
        obtain ⟨x, hx⟩ : ∃ x : ByteArray, x = ss[k] := ⟨_, rfl⟩
        rw [← hx] at hc BT hxz
        clear hx
        obtain ⟨c, hcc⟩ : ∃ c : Nat, c = bulkL (ss.take k) := ⟨_, rfl⟩
        have BT2 : Hid (bulkL (ss.take (k + 1)) = c + x.size) := by have := BT.out; rw [← hcc] at this; exact Lib.hid this
        rw [← hcc] at hle ⊢
        rw [BT.out, ← hcc] at hm
        clear BT hcc
        by_cases hov : 1048576 < ss.length + c + x.size
        · go_wp2
          go_ret
          exact ⟨_, rfl, by omega, rfl⟩
        · go_wp2
          go_round
          case rel => exact ⟨k + 1, by omega, by go_num, by rw [BT2.out]; omega, by rw [BT2.out]; go_num⟩
          case measure => simp [intOf]; omega
      · have hk2 : k = ss.length := by omega
        have HL : Hid (ss.length + bulkL ss ≤ 1048576) := by rw [hk2, List.take_length] at hle; exact Lib.hid hle
        clear hle
        go_wp2
        go_ret
        exact ⟨_, rfl, fun _ => HL.out, rfl⟩
/-- A copy in new memory. -/
def MadeStrs (ss : List ByteArray) (w : World) (e : Ending) (w' : World) : Prop :=
  e = .returned (.slice (some ⟨w.heap.size, 0, none⟩) ss.length ss.length) ∧ w'.ownsRow w.heap.size 9 1 (.slice (some ⟨w.heap.size, 0, none⟩) ss.length ss.length) ss.length (ss.map .string) ∧ Below w.heap.size w w'
/-- What the copy holds behind k rounds. -/
def halfway (ss : List ByteArray) (k : Nat) : List Value := (ss.take k).map .string ++ List.replicate (ss.length - k) (.string ByteArray.empty)
theorem halfway_zero (ss : List ByteArray) : halfway ss 0 = List.replicate ss.length (.string ByteArray.empty) := by simp [halfway]
theorem halfway_all (ss : List ByteArray) (k : Nat) (h : k = ss.length) : halfway ss k = ss.map .string := by subst h; simp [halfway]
theorem halfway_set (ss : List ByteArray) (k : Nat) (h : k < ss.length) : (halfway ss k).set k (.string ss[k]) = halfway ss (k + 1) := by
  unfold halfway
  have hl : ((ss.take k).map Value.string).length = k := by simp; omega
  rw [List.set_append_right _ _ (by omega), hl, Nat.sub_self, List.take_succ_eq_append_getElem h, List.map_append, List.append_assoc]
  congr 1
  obtain ⟨m, hm⟩ : ∃ m, ss.length - k = m + 1 := ⟨ss.length - k - 1, by omega⟩
  rw [hm, show ss.length - (k + 1) = m by omega]
  rfl
set_option maxHeartbeats 1000000 in
theorem toStr (ss : List ByteArray) (p : Option Addr) (cap : Nat) (w : World) (hn : ss.length ≤ 1048576) (hS : StrsAt w w.heap.size p ss) :
    Calls Try.prog 22 #[.slice p ss.length cap] w (MadeStrs ss w) := by
  have S := Lib.hid hS
  clear hS
  obtain ⟨i0, hi, hz0, hz1, hz2⟩ := info_parts strInfo
  have c1 : i0.bytes * ss.length ≤ 281474976710656 := by rw [hz2]; omega
  have c2 : ss.length ≤ maxLen := by unfold maxLen; omega
  go_enter Try.func22, Try.ntmps22
  go_wp2_with (at_make; refine wpList_make_full _ rfl _ _ 26 rfl w.heap.size 9 i0 (.string ByteArray.empty) 1 Try.underlying26 hi hz0 hz1 .i64 .i64 _ _ ss.length rfl rfl rfl rfl c1 c2 (Nat.le_refl _) ?_; intro w1 hown hg)
  have hb1 : Below w.heap.size w w1 := (Below.refl _ _).grown hg (Nat.le_refl _) (by simp)
  have hown1 : w1.ownsRow w.heap.size 9 1 (.slice (some ⟨w.heap.size, 0, none⟩) ss.length ss.length) ss.length (halfway ss 0) := by
    have h2 := hown
    rw [show (Value.string ByteArray.empty).cells = #[Value.string ByteArray.empty] from rfl, Nat.mul_one, toList_madeCells_one] at h2
    rw [halfway_zero]
    exact h2
  clear hown hg c1 c2
  go_loopw [4] (fun i wr => ∃ k : Nat, k ≤ ss.length ∧ i = .int .i64 k ∧ wr.ownsRow w.heap.size 9 1 (.slice (some ⟨w.heap.size, 0, none⟩) ss.length ss.length) ss.length (halfway ss k) ∧ Below w.heap.size w wr) (fun i _ => ss.length - (intOf i).toNat)
  case atStart => exact ⟨0, Nat.zero_le _, rfl, hown1, hb1⟩
  case round =>
    obtain ⟨k, hk, rfl, hown, hb⟩ := hrel
    by_cases hlt : k < ss.length
    · obtain ⟨b, off, rfl, hB, hc0⟩ := S.out.at_ hlt
      have hc : wr.cell? ⟨b, off + k, none⟩ = some (.string ss[k]) := by rw [hb.cell (p := ⟨b, off + k, none⟩) hB]; exact hc0
      have hold : wr.cell? ⟨w.heap.size, k, none⟩ = some (.string ByteArray.empty) := by
        rw [hown.cellAt k (by omega)]
        unfold halfway
        rw [List.getElem?_append_right (by simp; omega), List.getElem?_replicate, if_pos (by simp; omega)]
      have hfz : wr.frozen? ⟨w.heap.size, k, none⟩ = false := hown.frozenAt k
      have NEW := Lib.hid (hown.stored k (.string ss[k])).1
      have BB := Lib.hid (hb.setCell (p := ⟨w.heap.size, k, none⟩) (Nat.le_refl _) (.string ss[k]))
      have HS := Lib.hid (halfway_set ss k hlt)
      obtain ⟨x, hx⟩ : ∃ x : ByteArray, x = ss[k] := ⟨_, rfl⟩
      rw [← hx] at hc NEW BB HS
      clear hx hc0 hown hb
      go_wp2
      go_roundw
      case rel => exact ⟨k + 1, by omega, by go_num, by rw [← HS.out]; exact NEW.out, BB.out⟩
      case measure => simp [intOf]; omega
    · have hk2 : k = ss.length := by omega
      rw [halfway_all ss k hk2] at hown
      have E := Lib.hid hown
      clear hown
      go_wp2
      go_ret
      exact ⟨rfl, E.out, hb⟩
/-- Two slices that hold the same strings are alike. -/
theorem eqS (ss : List ByteArray) (p q : Option Addr) (c d B C : Nat) (w : World) (hn : ss.length ≤ maxLen) (hp : StrsAt w B p ss) (hq : StrsAt w C q ss) :
    Calls Try.prog 18 #[.slice p ss.length c, .slice q ss.length d] w fun e w' => e = .returned (.bool true) ∧ ∃ n, w' = w.drewN n := by
  unfold maxLen at hn
  have P := Lib.hid hp
  have Q := Lib.hid hq
  clear hp hq
  go_enter Try.func18, Try.ntmps18
  go_wp2
  go_loopw [5] (fun i wr => ∃ k : Nat, k ≤ ss.length ∧ i = .int .i64 k ∧ ∃ n, wr = w.drewN n) (fun i _ => ss.length - (intOf i).toNat)
  case atStart => exact ⟨0, Nat.zero_le _, rfl, 0, rfl⟩
  case round =>
    obtain ⟨k, hk, rfl, n, rfl⟩ := hrel
    by_cases hlt : k < ss.length
    · obtain ⟨b, off, rfl, _, hc⟩ := P.out.at_ hlt
      obtain ⟨b2, off2, rfl, _, hc2⟩ := Q.out.at_ hlt
      have h0 : (0 : Int) ≤ (k : Int) := by omega
      have h1 : (k : Int) < (ss.length : Int) := by omega
      obtain ⟨x, hx⟩ : ∃ x : ByteArray, x = ss[k] := ⟨_, rfl⟩
      rw [← hx] at hc hc2
      clear hx
      go_wp2
      go_quiet (fail)
      go_wp2
      go_roundw
      case rel => exact ⟨k + 1, by omega, by go_num, _, rfl⟩
      case measure => simp [intOf]; omega
    · go_wp2
      go_ret
      exact ⟨rfl, n, rfl⟩
end Go.Proofs.Ythpkabjgjgmnoaa
