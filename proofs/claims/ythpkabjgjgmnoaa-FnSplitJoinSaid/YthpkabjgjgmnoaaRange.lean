/- SplitString, as a contract of the translated text: the iterator of a text's parts, and the loop that collects them. -/
import Derived.Test.YthpkabjgjgmnoaaSplit
import Derived.RangeFuncBox
import Derived.RangeFuncFrom
import Derived.RangeFuncLeaves
import Derived.Shelf.Abstract
import Derived.WalkKit
import Derived.OwnWalkIn
import Derived.TacticsInMore
import Derived.LoopNIn
import Derived.LoopIn
import Derived.Maps.AppendAt
import Derived.RegionTactic
import Derived.ChangeAlike
namespace Go.Proofs.Ythpkabjgjgmnoaa
open Go.RowKit Go.Shelf
set_option linter.unusedVariables false
attribute [local go_sem] Oper.semAt_some
/-- The two boxes hold what they held. -/
def KeepsTwo (B1 B2 : Nat) (W W' : World) : Prop := W'.cell? ⟨B1, 0, none⟩ = W.cell? ⟨B1, 0, none⟩ ∧ W'.cell? ⟨B2, 0, none⟩ = W.cell? ⟨B2, 0, none⟩
theorem keepsTwo_t {B1 B2 : Nat} {A B C : World} (h : KeepsTwo B1 B2 A B) (k : KeepsTwo B1 B2 B C) : KeepsTwo B1 B2 A C := ⟨k.1.trans h.1, k.2.trans h.2⟩
theorem keepsTwo_b {B1 B2 : Nat} {w : World} (h1 : B1 < w.heap.size) (h2 : B2 < w.heap.size) (W : World) (l : Nat) (o o' : Obj) (hl : w.heap.size ≤ l) (h : W.heap[l]? = some o) (_ : o.isCells = false) (_ : o.isWalk = false) : KeepsTwo B1 B2 W (W.putObj l o') :=
  ⟨World.cell?_of_block (World.putObj_heap_other (by dsimp only; omega)), World.cell?_of_block (World.putObj_heap_other (by dsimp only; omega))⟩
theorem abides_drewN {β : Type} {B : Nat} {J : β → World → Prop} (h : AbidesFrom B J) {s : β} {W : World} (n : Nat) (hs : J s W) : J s (W.drewN n) :=
  h s W (W.drewN n) none hs ⟨rfl, rfl, rfl, Nat.le_refl _, fun _ _ _ => rfl⟩ (fun r e => by cases e)
theorem abides_drew {β : Type} {B : Nat} {J : β → World → Prop} (h : AbidesFrom B J) {s : β} {W : World} (hs : J s W) : J s W.drew :=
  h s W W.drew none hs ⟨rfl, rfl, rfl, Nat.le_refl _, fun _ _ _ => rfl⟩ (fun r e => by cases e)
set_option maxHeartbeats 1000000 in
/-- partsOf boxes its text and its separator, and hands back the function that yields. -/
theorem partsOf_in (F : Fence) (n : Nat) (h : F.fn 27) (hro : F.round = none) (s : ByteArray) (c : UInt8) (w : World) :
    CallsIn F n Try.prog 27 #[.string s, .int .u8 c.toNat] w fun e w' => e = .returned (.func (.func 36) #[] #[.pointer (some ⟨w.heap.size, 0, none⟩), .pointer (some ⟨w.heap.size + 1, 0, none⟩)]) ∧
      w' = (w.alloc (.cells #[.string s] 9)).alloc (.cells #[.int .u8 c.toNat] 5) := by
  refine callsIn_of_wp Try.func27 rfl h ?_ hro
  simp only [Try.ntmps27, List.size_toArray, List.length_cons, List.length_nil, Nat.reduceAdd, Nat.reduceSub, Array.replicate_succ, Array.replicate_zero, List.push_toArray, List.append_toArray, List.nil_append, List.cons_append]
  gi_wp2
  go_ret
  exact ⟨rfl, rfl⟩
set_option maxRecDepth 100000 in
set_option maxHeartbeats 2000000 in
/-- The function that yields: whatever the loop's body does, so it keeps the two boxes: the parts come, in their order; or some of them, where a round has said 'no more'. -/
theorem parts_in (F : Fence) (n : Nat) (h : F.fn 36) (hro : F.round = none) (hn : 1 ≤ n) (l B1 B2 : Nat) (s : ByteArray) (c : UInt8) (hs : s.size ≤ 2000000) (J Jx : List ByteArray → World → Prop)
    (W : World) (hA : AbidesFrom W.heap.size J)
    (hY : ∀ pre x W, J pre W → pre.length < s.size + 1 → YieldAt F (n - 1) Try.prog l #[.string x] W fun e W' =>
      (e = .returned (.bool true) ∧ J (pre ++ [x]) W' ∧ KeepsTwo B1 B2 W W') ∨ (e = .returned (.bool false) ∧ Jx (pre ++ [x]) W'))
    (hc1 : W.cell? ⟨B1, 0, none⟩ = some (.string s)) (hc2 : W.cell? ⟨B2, 0, none⟩ = some (.int .u8 c.toNat)) (h0 : J [] W) :
    CallsIn F n Try.prog 36 #[.func (.yield l) #[] #[], .pointer (some ⟨B1, 0, none⟩), .pointer (some ⟨B2, 0, none⟩)] W fun e W' => (∃ v, e = .returned v) ∧
      ((∃ ys, ys = splitAll s c ∧ J ys W') ∨ (∃ pre : List ByteArray, True ∧ Jx pre W')) := by
  refine callsIn_of_wp Try.func36 rfl h ?_ hro
  simp only [Try.ntmps36, List.size_toArray, List.length_cons, List.length_nil, Nat.reduceAdd, Nat.reduceSub, Array.replicate_succ, Array.replicate_zero, List.push_toArray, List.append_toArray, List.nil_append, List.cons_append]
  have AB := Lib.hid hA
  have YY := Lib.hid hY
  clear hA hY
  gi_wp2
  gi_loopw [4, 8] (fun st i wr => ∃ k : Nat, k ≤ s.size ∧ i = .int .i64 k ∧ st = .int .i64 (splitSt s c k).2 ∧ J (splitSt s c k).1 wr ∧ wr.cell? ⟨B1, 0, none⟩ = some (.string s) ∧ wr.cell? ⟨B2, 0, none⟩ = some (.int .u8 c.toNat)) (fun _ i _ => s.size - (intOf i).toNat)
  case atStart => exact ⟨0, Nat.zero_le _, rfl, rfl, h0, hc1, hc2⟩
  case round =>
    obtain ⟨k, hk, rfl, rfl, hJ, hb1, hb2⟩ := hrel
    obtain ⟨l1, l2⟩ := splitSt_le s c k
    by_cases hlt : k < s.size
    · have i0 : (0 : Int) ≤ (k : Int) := by omega
      have i1 : (k : Int) < (s.size : Int) := by omega
      by_cases hc : s[k] = c
      · have ST := Lib.hid (splitSt_yes s c k hlt hc)
        have e1 := byte_eq' s[k] c hc
        have e2 : ((s[k].toNat : Int) != (c.toNat : Int)) = false := by rw [bne, e1]; rfl
        have f0 : (0 : Int) ≤ ((splitSt s c k).2 : Int) := by omega
        have f1 : ((splitSt s c k).2 : Int) ≤ (k : Int) := by omega
        obtain ⟨fn, tmps, assign, body, hy, hR⟩ := YY.out _ (s.extract (splitSt s c k).2 k) wr.drew (abides_drew AB.out hJ) (by omega)
        clear hJ hc
        obtain ⟨out, f, hof⟩ : ∃ out f, (out, f) = splitSt s c k := ⟨_, _, rfl⟩
        rw [← hof] at ST l1 l2 f0 f1 hy hR ⊢
        dsimp only at l1 l2 f0 f1 hy hR ⊢
        clear hof
        gi_wp2
        gi_region
        all_goals
          gi_wp2
          refine hR.mono ?_
          rintro e W3 (⟨rfl, hJ3, hk3⟩ | ⟨rfl, hJx3⟩)
          · have b1 : W3.cell? ⟨B1, 0, none⟩ = some (.string s) := hk3.1.trans hb1
            have b2 : W3.cell? ⟨B2, 0, none⟩ = some (.int .u8 c.toNat) := hk3.2.trans hb2
            have J3 := Lib.hid hJ3
            clear hJ3 hk3
            gi_wp2
            go_roundw
            case rel => exact ⟨k + 1, by omega, by go_num, by rw [ST.out]; go_num, by rw [ST.out]; exact J3.out, b1, b2⟩
            case measure => simp [intOf]; omega
          · have JX := Lib.hid hJx3
            clear hJx3
            gi_wp2
            refine bodyPost_ret (results_none rfl _ _ _) rfl ?_
            exact ⟨⟨_, rfl⟩, .inr ⟨_, trivial, JX.out⟩⟩
      · have ST := Lib.hid (splitSt_no s c k hlt hc)
        have e1 := byte_ne' s[k] c hc
        have e2 : ((s[k].toNat : Int) != (c.toNat : Int)) = true := by rw [bne, e1]; rfl
        have J3 := Lib.hid (abides_drew AB.out hJ)
        clear hJ hc
        gi_wp2
        gi_region
        all_goals
          gi_wp2
          go_roundw
          case rel => exact ⟨k + 1, by omega, by go_num, by rw [ST.out], by rw [ST.out]; exact J3.out, hb1, hb2⟩
          case measure => simp [intOf]; omega
    · have hk2 : k = s.size := by omega
      have ALL : Hid (splitAll s c = (splitSt s c k).1 ++ [s.extract (splitSt s c k).2 s.size]) := by rw [hk2]; exact Lib.hid rfl
      have f0 : (0 : Int) ≤ ((splitSt s c k).2 : Int) := by omega
      have f1 : (splitSt s c k).2 ≤ s.size := by omega
      obtain ⟨fn, tmps, assign, body, hy, hR⟩ := YY.out _ (s.extract (splitSt s c k).2 s.size) wr hJ (by omega)
      clear hJ hk2
      obtain ⟨out, f, hof⟩ : ∃ out f, (out, f) = splitSt s c k := ⟨_, _, rfl⟩
      rw [← hof] at ALL l1 l2 f0 f1 hy hR ⊢
      dsimp only at ALL l1 l2 f0 f1 hy hR ⊢
      clear hof
      gi_wp2
      refine hR.mono ?_
      rintro e W3 (⟨rfl, hJ3, hk3⟩ | ⟨rfl, hJx3⟩)
      · have J3 := Lib.hid hJ3
        clear hJ3 hk3
        gi_wp2
        go_end0
        exact ⟨⟨_, rfl⟩, .inl ⟨_, rfl, by rw [ALL.out]; exact J3.out⟩⟩
      · have JX := Lib.hid hJx3
        clear hJx3
        gi_wp2
        go_end0
        exact ⟨⟨_, rfl⟩, .inr ⟨_, trivial, JX.out⟩⟩
end Go.Proofs.Ythpkabjgjgmnoaa
