/- The inputs that the law of splitting and joining draws; nothing that lay before is turned. -/
import Derived.Test.YthpkabjgjgmnoaaDraw0
import Derived.Test.YthpkabjgjgmnoaaBytes
import Derived.WalkKit
import Derived.ProofKit
import Derived.Outline
import Derived.Lib.Hide
import Derived.WalkSpells
import Derived.OwnWalk
import Derived.Laws.AppendOwn
import Derived.Laws.IdiomStrings
import Derived.Laws.OwnMore
namespace Go.Proofs.Ythpkabjgjgmnoaa
open Go.RowKit
set_option linter.unusedVariables false
/-- Two texts. -/
def TwoStrings (K L : Nat) (e : Ending) : Prop := ∃ s t : ByteArray, s.size ≤ K ∧ t.size ≤ L ∧ e = .returned (.tuple #[.string s, .string t])
set_option maxHeartbeats 1000000 in
theorem drawSplit (n c : Nat) (p : Option Addr) (w : World) (hn : n ≤ 65536) (hB : BytesAt w w.heap.size p n) :
    Calls Try.prog 9 #[.slice p n c] w fun e w' => TwoStrings 10 10 e ∧ Below w.heap.size w w' := by
  have B := Lib.hid hB
  have C := Lib.hid (CurAt.new w p n c)
  clear hB
  go_enter Try.func9, Try.ntmps9
  go_wp2_with fail
  refine (any1_any w.heap.size n c 0 p _ (by omega) hn C.out (B.out.alloc _)).mono ?_
  rintro e w1 ⟨⟨s, hs, rfl⟩, ⟨k1, hk1, hc1⟩, hg1⟩
  have C1 := Lib.hid hc1
  have G1 := Lib.hid (grown_then (grown_alloc w (.cells #[.slice p n c, .int .i64 0, .int .u64 0] 44) (some w.heap.size)) hg1)
  have B1 := Lib.hid ((B.out.alloc (.cells #[.slice p n c, .int .i64 0, .int .u64 0] 44)).turned (Nat.le_refl _) hg1)
  have hr1 := hc1.room
  clear hc1 hg1
  go_wp2_with fail
  refine (of_any w.heap.size n c k1 p _ 5 5 10 _ (by omega) (by omega) (by omega) hn (C1.out.alloc _) (B1.out.alloc _) (by omega) ?_).mono ?_
  · intro i hi
    have : i = 0 ∨ i = 1 ∨ i = 2 ∨ i = 3 ∨ i = 4 := by omega
    rcases this with rfl | rfl | rfl | rfl | rfl <;> exact ⟨_, (by decide), new_cell _ _ _ _ _ rfl⟩
  · rintro e w2 ⟨⟨t, ht, rfl⟩, hp⟩
    have G2 := Lib.hid (grown_then G1.out (grown_then (grown_alloc _ _ _) hp.2))
    clear hp
    go_wp2_with fail
    go_ret2
    exact ⟨⟨s, t, hs, ht, rfl⟩, below_of_grown G2.out (Nat.le_refl _)⟩
set_option maxHeartbeats 1000000 in
theorem drawLess (n c : Nat) (p : Option Addr) (w : World) (hn : n ≤ 65536) (hB : BytesAt w w.heap.size p n) :
    Calls Try.prog 14 #[.slice p n c] w fun e w' => TwoStrings 10 10 e ∧ Below w.heap.size w w' := by
  have B := Lib.hid hB
  have C := Lib.hid (CurAt.new w p n c)
  clear hB
  go_enter Try.func14, Try.ntmps14
  go_wp2_with fail
  refine (any1_any w.heap.size n c 0 p _ (by omega) hn C.out (B.out.alloc _)).mono ?_
  rintro e w1 ⟨⟨s, hs, rfl⟩, ⟨k1, hk1, hc1⟩, hg1⟩
  have C1 := Lib.hid hc1
  have G1 := Lib.hid (grown_then (grown_alloc w (.cells #[.slice p n c, .int .i64 0, .int .u64 0] 44) (some w.heap.size)) hg1)
  have B1 := Lib.hid ((B.out.alloc (.cells #[.slice p n c, .int .i64 0, .int .u64 0] 44)).turned (Nat.le_refl _) hg1)
  clear hc1 hg1
  go_wp2_with fail
  refine (any1_any w.heap.size n c k1 p _ (by omega) hn C1.out B1.out).mono ?_
  rintro e w2 ⟨⟨t, ht, rfl⟩, hp⟩
  have G2 := Lib.hid (grown_then G1.out hp.2)
  clear hp
  go_wp2_with fail
  go_ret2
  exact ⟨⟨s, t, hs, ht, rfl⟩, below_of_grown G2.out (Nat.le_refl _)⟩
/-- Strings that lie in memory, and a text. -/
def SomeStrings (w : World) (e : Ending) (w' : World) : Prop :=
  ∃ (q : Option Addr) (cap : Nat) (ss : List ByteArray) (s : ByteArray), e = .returned (.tuple #[.slice q ss.length cap, .string s]) ∧ ss.length ≤ 4 ∧ ss.length ≤ cap ∧ (∀ x ∈ ss, x.size ≤ 5000) ∧ s.size ≤ 10 ∧
    StrsAt w' w'.heap.size q ss ∧ Below w.heap.size w w'
theorem CurAt.kept {w w' : World} {a n c k : Nat} {p : Option Addr} {r : Option Nat} (h : CurAt w a p n c k) (hg : w.grownBy w' r) (hr : some a ≠ r) : CurAt w' a p n c k := by
  have hlt := h.room
  obtain ⟨s, s0, s1, hb⟩ := h
  exact ⟨s, s0, s1, by rw [hg.block a hlt hr]; exact hb⟩
theorem own_after {w w' : World} {base e a : Nat} {v : Value} {n : Nat} {xs : List Value} (h : w.ownsRow base e 1 v n xs) (hg : w.grownBy w' (some a)) (ha : a < base) : w'.ownsRow base e 1 v n xs :=
  h.kept hg (by
    rcases h.2 with ⟨rfl, _⟩ | ⟨g, cap, cur, rfl, hb, _⟩
    · exact .inl (by simp [Value.ownBlock])
    · refine .inr ?_
      simp [Value.ownBlock]; omega)
theorem row_ne {w : World} {base e a : Nat} {v : Value} {n : Nat} {xs : List Value} (h : w.ownsRow base e 1 v n xs) (ha : a < base) : some a ≠ v.ownBlock := by
  rcases h.2 with ⟨rfl, _⟩ | ⟨g, cap, cur, rfl, hb, _⟩
  · simp [Value.ownBlock]
  · simp [Value.ownBlock]; omega
theorem row_base {w : World} {base e B : Nat} {v : Value} {n : Nat} {xs : List Value} (h : w.ownsRow base e 1 v n xs) (hb : B ≤ base) : ∀ q, v.ownBlock = some q → B ≤ q := by
  intro q hq
  have := (h.lt q hq).1
  omega
theorem strs_row {w : World} {base e : Nat} {v : Value} {ss : List ByteArray} (h : w.ownsRow base e 1 v ss.length (ss.map .string)) : ∃ q cap, v = .slice q ss.length cap ∧ ss.length ≤ cap ∧ StrsAt w w.heap.size q ss := by
  rcases h.2 with ⟨h1, h2⟩ | ⟨g, cap, cur, h1, hb, hg, hc, _⟩
  · exact ⟨none, 0, by rw [h1, h2], by omega, fun i hi => by omega⟩
  · subst h1
    exact ⟨some ⟨g, 0, none⟩, cap, rfl, hc, StrsAt.of_own h⟩
theorem own_more {w : World} {base e : Nat} {v : Value} {ss : List ByteArray} {x : ByteArray} (h : w.ownsRow base e 1 v (ss.length + 1) (ss.map .string ++ [.string x])) : w.ownsRow base e 1 v (ss ++ [x]).length ((ss ++ [x]).map .string) := by
  rw [List.length_append, List.map_append]; exact h
theorem sizes_more {ss : List ByteArray} {x : ByteArray} (h : ∀ y ∈ ss, y.size ≤ 5000) (hx : x.size ≤ 5000) : ∀ y ∈ ss ++ [x], y.size ≤ 5000 := by
  intro y hy
  rcases List.mem_append.1 hy with hy | hy
  · exact h y hy
  · rw [List.mem_singleton] at hy; subst hy; exact hx
set_option maxHeartbeats 2000000 in
theorem drawJoin (n c : Nat) (p : Option Addr) (w : World) (hn : n ≤ 65536) (hB : BytesAt w w.heap.size p n) :
    Calls Try.prog 11 #[.slice p n c] w (SomeStrings w) := by
  have B := Lib.hid hB
  have C := Lib.hid (CurAt.new w p n c)
  obtain ⟨i0, hi, hz0, hz1, hz2⟩ := info_parts strInfo
  obtain ⟨i1, hj, hy0, hy1, hy2⟩ := info_parts byteInfo
  clear hB
  go_enter Try.func11, Try.ntmps11
  go_wp2_with fail
  have own0 : ((w.alloc (.cells #[.slice p n c, .int .i64 0, .int .u64 0] 44)).alloc (.cells #[] 9)).ownsRow (w.heap.size + 1) 9 1 (.slice (some ⟨w.heap.size + 1, 0, none⟩) 0 0) 0 [] := by
    refine ⟨rfl, .inr ⟨w.heap.size + 1, 0, #[], rfl, Nat.le_refl _, ?_, by omega, by unfold maxLen; omega, rfl, rfl⟩⟩
    show ((w.heap.push _).push _)[w.heap.size + 1]? = _
    rw [Array.getElem?_push, if_pos (by simp)]
  refine (pick_any w.heap.size n c 0 p 4 _ (by omega) (by omega) (by omega) hn (C.out.alloc _) ((B.out.alloc _).alloc _)).mono ?_
  rintro e w1 ⟨⟨N, r0, r1, rfl⟩, ⟨k1, hk1, hc1⟩, hg1⟩
  have own1 := own_after own0 hg1 (Nat.lt_succ_self _)
  have C1 := Lib.hid hc1
  have G1 := Lib.hid (below_of_grown (grown_then (grown_alloc w (.cells #[.slice p n c, .int .i64 0, .int .u64 0] 44) (some w.heap.size)) (grown_then (grown_alloc _ (.cells #[] 9) (some w.heap.size)) hg1)) (Nat.le_refl _))
  have OWN1 := Lib.hid own1
  clear hc1 hg1 own0 own1
  go_wp2
  go_loopw [5, 7] (fun l i wr => ∃ (k kc : Nat) (ss : List ByteArray), (k : Int) ≤ N ∧ i = .int .i64 k ∧ ss.length = k ∧ kc ≤ 2 + 2 * k ∧ Hid (∀ x ∈ ss, x.size ≤ 5000) ∧ Hid (CurAt wr w.heap.size p n c kc) ∧ Hid (wr.ownsRow (w.heap.size + 1) 9 1 l ss.length (ss.map .string)) ∧ Hid (Below w.heap.size w wr)) (fun _ i _ => N.toNat - (intOf i).toNat)
  case atStart => exact ⟨0, k1, [], by omega, rfl, rfl, by omega, Lib.hid (by intro x hx; cases hx), C1, OWN1, G1⟩
  case round =>
    obtain ⟨k, kc, ss, hk, rfl, hss, hkc, Z, CC, OO, BL⟩ := hrel
    have BB : Hid (BytesAt wr w.heap.size p n) := Lib.hid (B.out.below BL.out)
    by_cases hlt : (k : Int) < N
    · go_wp2_with fail
      refine (any1_any w.heap.size n c kc p wr (by omega) hn CC.out BB.out).mono ?_
      rintro e w2 ⟨⟨s, hs, rfl⟩, ⟨k2, hk2, hc2⟩, hg2⟩
      have ow2 := own_after OO.out hg2 (Nat.lt_succ_self _)
      have bl2 : Below w.heap.size w w2 := BL.out.grown hg2 BL.out.size (by intro q hq; injection hq; omega)
      have sz2 := bl2.size
      have szc := hc2.room
      go_wp2_with (at_builtin; refine wpList_append_own _ rfl _ _ 26 rfl (w.heap.size + 1) 9 i0 (.string ByteArray.empty) 1 16 Try.underlying26 hi hz0 hz1 hz2 rfl (by decide) _ ss.length (ss.map .string) rfl (ow2.alloc _) ⟨w2.heap.size, 0, none⟩ 1 1 [.string s] rfl rfl (cell_one_new _ _ _) (fun x hx => by simp at hx; subst hx; rfl) (by unfold maxLen; omega) (by omega) (by simp; omega) ?_; intro v' w3 hown3 hgrow3 hnil3)
      have bel3 : Hid (Below w.heap.size w w3) := Lib.hid ((bl2.alloc sz2 _).grown hgrow3 (by simp; omega) (row_base ow2 (by omega)))
      have own3 := Lib.hid (own_more hown3)
      have cur3 := Lib.hid ((hc2.alloc _).kept hgrow3 (row_ne ow2 (Nat.lt_succ_self _)))
      have Z3 := Lib.hid (sizes_more Z.out (show s.size ≤ 5000 by omega))
      clear hown3 hgrow3 hnil3 ow2 bl2 hc2 hg2
      go_roundw
      case rel => exact ⟨k + 1, k2, ss ++ [s], by omega, by go_num, by simp [hss], by omega, Z3, cur3, own3, bel3⟩
      case measure => simp [intOf]; omega
    · have hk4 : k ≤ 3 := by omega
      clear C1 G1 OWN1
      go_wp2_with fail
      refine (one_any w.heap.size n c kc p 20 wr (by omega) (by omega) (by omega) hn CC.out BB.out).mono ?_
      rintro e w2 ⟨⟨r, rfl⟩, ⟨k2, hk2, hc2⟩, hg2⟩
      have ow2 := own_after OO.out hg2 (Nat.lt_succ_self _)
      have bl2 : Below w.heap.size w w2 := BL.out.grown hg2 BL.out.size (by intro q hq; injection hq; omega)
      cases r with
      | true =>
        have by2 := B.out.below bl2
        go_wp2_with fail
        refine (pick_any w.heap.size n c k2 p 20 _ (by omega) (by omega) (by omega) hn hc2 by2).mono ?_
        rintro e w3 ⟨⟨z, z0, z1, rfl⟩, ⟨k3, hk3, hc3⟩, hg3⟩
        have ow3 := own_after ow2 hg3 (Nat.lt_succ_self _)
        have bl3 : Below w.heap.size w w3 := bl2.grown hg3 bl2.size (by intro q hq; injection hq; omega)
        obtain ⟨q, hq0⟩ : ∃ q : Nat, (3990 : Int) + z = (q : Int) := ⟨(3990 + z).toNat, by omega⟩
        have q1 : q ≤ 4020 := by omega
        have HQ := Lib.hid hq0
        clear hq0
        have c1 : i1.bytes * q ≤ 281474976710656 := by rw [hy2]; omega
        have c2 : q ≤ maxLen := by unfold maxLen; omega
        have OW3 := Lib.hid ow3
        have BL3 := Lib.hid bl3
        have C3 := Lib.hid hc3
        have sz3 := bl3.size
        clear hc2 hg2 ow2 bl2 by2 hc3 hg3 ow3 bl3
        go_wp2_with (first
          | (at_make; refine wpList_make_full _ rfl _ _ 22 rfl w3.heap.size 5 i1 (.int .u8 0) 1 Try.underlying22 hj hy0 hy1 .i64 .i64 _ _ q rfl rfl HQ.out HQ.out c1 c2 (Nat.le_refl _) ?_; intro w4 hown hg; have hconv := conv_zero hown; have ow4 := OW3.out.kept (grown_none hg (some w.heap.size)) (.inr (row_ne OW3.out (Nat.lt_succ_self _)).symm); have bl4 : Below w.heap.size w w4 := BL3.out.grown hg sz3 (by intro q hq; cases hq); have cu4 := C3.out.kept hg (by simp); have sz4 := bl4.size; have szc := cu4.room)
          | (at_builtin; refine wpList_append_own _ rfl _ _ 26 rfl (w.heap.size + 1) 9 i0 (.string ByteArray.empty) 1 16 Try.underlying26 hi hz0 hz1 hz2 rfl (by decide) _ ss.length (ss.map .string) rfl (ow4.alloc _) ⟨w4.heap.size, 0, none⟩ 1 1 [.string ⟨(List.replicate q (0 : UInt8)).toArray⟩] rfl (by simp) (by simpa using cell_one_new w4 _ _) (fun x hx => by simp at hx; subst hx; rfl) (by unfold maxLen; omega) (by omega) (by simp; omega) ?_; intro v' w5 hown5 hgrow5 hnil5))
        have X5 : (⟨(List.replicate q (0 : UInt8)).toArray⟩ : ByteArray).size ≤ 5000 := by show (List.replicate q (0 : UInt8)).toArray.size ≤ 5000; simp; omega
        have bel5 : Below w.heap.size w w5 := (bl4.alloc sz4 _).grown hgrow5 (by simp; omega) (row_base ow4 (by omega))
        have OW5 := Lib.hid (own_more hown5)
        have cur5 := (cu4.alloc _).kept hgrow5 (row_ne ow4 (Nat.lt_succ_self _))
        have sz5 := bel5.size
        have szr := cur5.room
        have BY5 := B.out.below bel5
        refine (of_any w.heap.size n c k3 p _ 5 5 10 _ (by omega) (by omega) (by omega) hn (cur5.alloc _) (BY5.alloc _) (by omega) ?_).mono ?_
        · intro i hi
          have : i = 0 ∨ i = 1 ∨ i = 2 ∨ i = 3 ∨ i = 4 := by omega
          rcases this with rfl | rfl | rfl | rfl | rfl <;> exact ⟨_, (by decide), new_cell _ _ _ _ _ rfl⟩
        · rintro e w6 ⟨⟨t, ht, rfl⟩, hp⟩
          have own6 := own_after (OW5.out.alloc _) hp.2 (Nat.lt_succ_self _)
          have bl6 : Hid (Below w.heap.size w w6) := Lib.hid ((bel5.alloc sz5 _).grown hp.2 (by simp; omega) (by intro q hq; injection hq; omega))
          obtain ⟨x, hx⟩ : ∃ x : ByteArray, x = ⟨(List.replicate q (0 : UInt8)).toArray⟩ := ⟨_, rfl⟩
          have L5 : (ss ++ [x]).length = ss.length + 1 := by simp
          rw [← hx] at own6 X5
          have Z6 := Lib.hid (sizes_more Z.out X5)
          obtain ⟨q6, cap, hv, hcap, hst⟩ := strs_row own6
          subst hv
          have ST := Lib.hid hst
          clear hp own6 hst OO OW5 ow4 bl4 cu4 hown5 hgrow5 hnil5 hown hg hconv bel5 cur5 BY5 OW3 BL3 C3 hx
          go_wp2_with fail
          go_ret2
          exact ⟨q6, cap, ss ++ [x], t, by rw [L5, hss]; rfl, by omega, hcap, Z6.out, ht, ST.out, bl6.out⟩
      | false =>
        have OW2 := Lib.hid ow2
        have BL2 := Lib.hid bl2
        have BY2 := Lib.hid (B.out.below bl2)
        have C2 := Lib.hid hc2
        have szc := hc2.room
        clear hc2 hg2 ow2 bl2
        go_wp2_with fail
        refine (of_any w.heap.size n c k2 p _ 5 5 10 _ (by omega) (by omega) (by omega) hn (C2.out.alloc _) (BY2.out.alloc _) (by omega) ?_).mono ?_
        · intro i hi
          have : i = 0 ∨ i = 1 ∨ i = 2 ∨ i = 3 ∨ i = 4 := by omega
          rcases this with rfl | rfl | rfl | rfl | rfl <;> exact ⟨_, (by decide), new_cell _ _ _ _ _ rfl⟩
        · rintro e w5 ⟨⟨t, ht, rfl⟩, hp⟩
          have own5 := own_after (OW2.out.alloc _) hp.2 (Nat.lt_succ_self _)
          have bl5 : Hid (Below w.heap.size w w5) := Lib.hid ((BL2.out.alloc BL2.out.size _).grown hp.2 (by have := BL2.out.size; simp; omega) (by intro q hq; injection hq; omega))
          obtain ⟨q, cap, hv, hcap, hst⟩ := strs_row own5
          subst hv
          have ST := Lib.hid hst
          clear hp own5 hst OO OW2
          go_wp2_with fail
          go_ret2
          exact ⟨q, cap, ss, t, by rw [hss]; rfl, by omega, hcap, Z.out, ht, ST.out, bl5.out⟩
end Go.Proofs.Ythpkabjgjgmnoaa
