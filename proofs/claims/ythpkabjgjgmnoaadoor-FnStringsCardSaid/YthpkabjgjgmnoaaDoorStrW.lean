/- The walk of the law FnStrings: the Go text answers true. -/
import Derived.Test.YthpkabjgjgmnoaaDoorConv
import Derived.WalkKit
import Derived.ProofKit
import Derived.Outline
import Derived.Lib.Hide
import Derived.WalkSpells
import Derived.StillTailTactics
namespace Go.Proofs.YthpkabjgjgmnoaaDoor.fnStrings
open Go.RowKit
set_option linter.unusedVariables false
theorem gTabW : Tryd.prog.globalNamed "internal/strconv.uint64pow10" = some 1 := by kernel_rfl
theorem marked_free (w : World) (C : Array Value) (t : TypeId) (j : Nat) (h : j < C.size) : ((w.alloc (.cells C t (C.size, C.size + 1))).drew).frozen? ⟨w.heap.size, j, none⟩ = false := by
  have hh : ((w.alloc (.cells C t (C.size, C.size + 1))).drew).heap[w.heap.size]? = some (.cells C t (C.size, C.size + 1)) := by
    show (w.heap.push _)[w.heap.size]? = _
    simp
  unfold World.frozen?
  simp only [hh]
  simp; omega
theorem not_sealed (x Y : ByteArray) (hY : Y = sealB x) (hx : canSeal x) (k : Nat) (hk : k < Y.size) (v : Int) (v0 : 0 ≤ v) (v1 : v ≤ 255) (hv : v ≠ (Y[k].toNat : Int)) : ¬ sealedB (changed Y k (UInt8.ofNat v.toNat)) := by
  subst hY
  have hl : (sealB x).data.toList.length = (sealB x).size := by simp
  refine detect x _ k (UInt8.ofNat v.toNat) hx (by rw [hl]; exact hk) (fun e => hv ?_) (changed_list _ _ _)
  have e2 : (sealB x)[k] = UInt8.ofNat v.toNat := e
  rw [e2]
  have h2 : (UInt8.ofNat v.toNat).toNat = v.toNat := by simp; omega
  rw [h2]; omega
set_option maxRecDepth 100000 in
set_option maxHeartbeats 4000000 in
theorem walk (n c : Nat) (p : Option Addr) (hn : n ≤ maxLen) (W : World) (hB : BytesAt W W.heap.size p n) (htab : Lib.TabIs Tryd.prog W "internal/strconv.uint64pow10" .u64 Lib.pow10Tab) (hz : 1 < W.heap.size)
    (hmm : ∃ m, W.cell? ⟨0, 0, none⟩ = some (.int .i64 m)) (hz0 : 0 < W.heap.size) :
    Calls Tryd.prog 3 #[.slice p n c] W fun e W' => e = .returned (.bool true) ∧ Below W.heap.size W W' := by
  obtain ⟨mx, hm⟩ := hmm
  by_cases hbig : 65536 < n
  · clear hB htab hm
    go_enter Tryd.func3, Tryd.ntmps3
    go_wp2_with (go_at_call 8; refine (vBig_yes _ _ _ _ hbig hn).mono ?_; rintro e w' ⟨rfl, rfl⟩)
    go_ret
    exact ⟨rfl, Below.refl _ _⟩
  · have hn2 : n ≤ 65536 := by omega
    have T := fun (w : World) (K : Below W.heap.size W w) => Lib.hid (tab_below K gTabW hz htab)
    have M := fun (w : World) (K : Below W.heap.size W w) => Lib.hid ((K.cell (p := ⟨0, 0, none⟩) hz0).trans hm)
    have B := fun (w : World) (K : Below W.heap.size W w) => Lib.hid ((hB.below K).more K.size)
    have ROOM := fun (w : World) (K : Below W.heap.size W w) => Lib.hid (Nat.lt_of_lt_of_le hz K.size)
    obtain ⟨r9, r9a, r9b, V9⟩ := vAt_val n c W.heap.size 9 p W (by omega) hn2 hB
    obtain ⟨r10, r10a, r10b, V10⟩ := vAt_val n c W.heap.size 10 p W (by omega) hn2 hB
    have VA : Hid (∀ W1 : World, Below W.heap.size W W1 → Calls Tryd.prog 19 #[.slice p n c, .int .i64 9] W1 fun e w' => e = .returned (.int .i64 r9) ∧ w' = W1) := Lib.hid V9
    have VB : Hid (∀ W1 : World, Below W.heap.size W W1 → Calls Tryd.prog 19 #[.slice p n c, .int .i64 10] W1 fun e w' => e = .returned (.int .i64 r10) ∧ w' = W1) := Lib.hid V10
    have T' := Lib.hid T
    have M' := Lib.hid M
    have B' := Lib.hid B
    have R' := Lib.hid ROOM
    have D0 := Lib.hid (drawInt n c p W hn2 hB)
    clear hB htab hm T M B ROOM V9 V10 hbig hn
    go_enter Tryd.func3, Tryd.ntmps3
    go_wp2_with (go_at_call 8; refine (vBig_no _ _ _ _ hn2).mono ?_; rintro e w' ⟨rfl, rfl⟩)
    refine D0.out.mono ?_
    rintro e w1 ⟨⟨z, rfl⟩, hb⟩
    have K1 := Lib.hid hb
    obtain ⟨s, sb, hT⟩ := told_ex z
    have TO := Lib.hid hT
    clear hb hT
    go_wp2_with fail
    refine (implFmt_s TO.out w1 (T'.out w1 K1.out).out).mono ?_
    rintro e w2 ⟨rfl, hb⟩
    have K2 := Lib.hid (K1.out.trans (hb.mono K1.out.size))
    clear hb
    go_wp2_with fail
    refine (specFmt_s TO.out w2).mono ?_
    rintro e w3 ⟨rfl, hb⟩
    have K3 := Lib.hid (K2.out.trans (hb.mono K2.out.size))
    clear hb
    go_wp2_with fail
    refine (drawText n c p w3 hn2 (B'.out w3 K3.out).out).mono ?_
    rintro e w4 ⟨⟨t, ht, rfl⟩, hb⟩
    have K4 := Lib.hid (K3.out.trans (hb.mono K3.out.size))
    obtain ⟨m, mb, hS⟩ := spells_ex t
    have SP := Lib.hid hS
    have tz : t.size ≤ maxLen := by unfold maxLen; omega
    clear hb hS
    go_wp2_with fail
    refine (implParse_s SP.out w4 tz (T'.out w4 K4.out).out).mono ?_
    rintro e w5 ⟨rfl, hb⟩
    have K5 := Lib.hid (K4.out.trans (hb.mono K4.out.size))
    clear hb
    go_wp2_with fail
    refine (specParse_s SP.out w5 tz).mono ?_
    rintro e w6 ⟨rfl, hb⟩
    have K6 := Lib.hid (K5.out.trans (hb.mono K5.out.size))
    clear hb
    go_wp2_with fail
    refine (drawSeal n c p w6 hn2 (B'.out w6 K6.out).out).mono ?_
    rintro e w7 ⟨⟨x, hx, rfl⟩, hb⟩
    have K7 := Lib.hid (K6.out.trans (hb.mono K6.out.size))
    have xz : x.size ≤ maxLen := by unfold maxLen; omega
    obtain ⟨m2, b2, hS2, hT2, hsz⟩ := told_spells TO.out
    have S2 := Lib.hid hS2
    have T2 := Lib.hid hT2
    have sz : s.size ≤ maxLen := by unfold maxLen; omega
    clear hb hS2 hT2
    by_cases hcs : canSeal x
    · have CS := Lib.hid hcs
      have SF := Lib.hid (sealed_first x hcs)
      clear hcs
      obtain ⟨Y, hYd⟩ : ∃ Y, Y = sealB x := ⟨_, rfl⟩
      have HY := Lib.hid hYd
      have SY := Lib.hid (implSeal_yes x w7 CS.out (T'.out w7 K7.out).out)
      have SX := Lib.hid (fun w => specSeal_b x w CS.out)
      rw [← hYd] at SF SY SX
      clear hYd
      have SF2 := Lib.hid SF.out.2
      have YZ : Y.size ≤ 4000 := SF2.out.1
      have YP : 1 ≤ Y.size := by rw [HY.out, sealB_size]; omega
      go_wp2_with fail
      refine SY.out.mono ?_
      rintro e w8 ⟨rfl, hb⟩
      have K8 := Lib.hid (K7.out.trans (hb.mono K7.out.size))
      clear hb
      go_wp2_with fail
      refine (SX.out w8).mono ?_
      rintro e w9 ⟨rfl, hb⟩
      have K9 := Lib.hid (K8.out.trans (hb.mono K8.out.size))
      clear hb
      go_wp2_with fail
      refine (implParse_s S2.out w9 sz (T'.out w9 K9.out).out).mono ?_
      rintro e w10 ⟨rfl, hb⟩
      have K10 := Lib.hid (K9.out.trans (hb.mono K9.out.size))
      have VY : Hid (Calls Tryd.prog 18 #[.string Y] w10 fun e w' => e = .returned (.tuple #[.string x, .bool true]) ∧ Below w10.heap.size w10 w') := by
        have := implVer_yes Y mx w10 SF2.out (M'.out w10 K10.out).out (R'.out w10 K10.out).out gTabW (T'.out w10 K10.out).out
        rw [SF.out.1] at this
        exact Lib.hid this
      clear hb
      cases sb with
      | true =>
        obtain ⟨rfl, rfl⟩ := T2.out rfl
        go_wp2_with fail
        refine VY.out.mono ?_
        rintro e w11 ⟨rfl, hb⟩
        have K11 := Lib.hid (K10.out.trans (hb.mono K10.out.size))
        obtain ⟨cap, C, hconv, hC1, hC2⟩ := conv_bytes Y w11
        have CC := Lib.hid hC2
        clear hb hC2
        go_wp2_with fail
        refine (VA.out _ ((K11.out.alloc K11.out.size _).drew)).mono ?_
        rintro e w12 ⟨rfl, hw⟩
        have K12 : Hid (Below W.heap.size W w12) := by rw [hw]; exact Lib.hid ((K11.out.alloc K11.out.size _).drew)
        have HC : Hid (∀ (j : Nat) (h : j < Y.size), w12.cell? ⟨w11.heap.size, j, none⟩ = some (.int .u8 (Y[j].toNat : Int))) := Lib.hid (fun j h => by
          rw [hw]
          show (w11.alloc _).cell? _ = _
          rw [World.cell?_alloc_mark]; exact CC.out j h)
        have HF : Hid (∀ (j : Nat), j < Y.size → w12.frozen? ⟨w11.heap.size, j, none⟩ = false) := Lib.hid (fun j h => by
          rw [hw]
          exact marked_free w11 C _ j (by omega))
        have HG : Hid (W.heap.size ≤ w11.heap.size) := Lib.hid K11.out.size
        obtain ⟨k, hkk⟩ : ∃ k : Nat, r9 % (Y.size : Int) = (k : Int) := ⟨(r9 % (Y.size : Int)).toNat, by have := Int.emod_nonneg r9 (show (Y.size : Int) ≠ 0 by omega); omega⟩
        have hkl : k < Y.size := by have := Int.emod_lt_of_pos r9 (show (0 : Int) < (Y.size : Int) by omega); omega
        obtain ⟨zk, hzk⟩ : ∃ zk : Int, zk = (Y[k].toNat : Int) := ⟨_, rfl⟩
        have hcz := HC.out k hkl
        rw [← hzk] at hcz
        have hfz := HF.out k hkl
        have z0 : 0 ≤ zk := by omega
        have z1 : zk ≤ 255 := by have := Y[k].toNat_lt; omega
        have HZ := Lib.hid hzk
        have q0 : 0 ≤ r10 % 255 := by omega
        have q1 : r10 % 255 ≤ 254 := by omega
        have i0 : (0 : Int) ≤ (k : Int) := by omega
        have i1 : (k : Int) < (Y.size : Int) := by omega
        obtain ⟨xn0, xn1, xn2⟩ := xor_new zk (1 + r10 % 255) z0 z1 (by omega) (by omega)
        obtain ⟨v, hv⟩ : ∃ v, bits .xor .u8 zk (1 + r10 % 255) = v := ⟨_, rfl⟩
        rw [hv] at xn0 xn1 xn2
        have XN := Lib.hid xn2
        have hback := conv_back Y w12 w11.heap.size cap k v hkl xn0 xn1 HC.out
        clear hconv hw hC1 hzk xn2
        go_wp2_with fail
        try rw [hkk]
        refine wp_region_still_tail 13 (by kernel_rfl) (by kernel_rfl) ?_
        simp only [List.take_succ_cons, List.take_zero, List.drop_succ_cons, List.drop_zero]
        repeat still_step
        still_call (VB.out _ (K12.out.drew))
        repeat still_step
        refine wpStill_nil ?_
        change wpList _ _ _ _ _ w12.drew
        go_wp2_with fail
        have K13 : Hid (Below W.heap.size W ((w12.setCell ⟨w11.heap.size, k, none⟩ (.int .u8 v)).drew)) := Lib.hid ((K12.out.setCell (p := ⟨w11.heap.size, k, none⟩) HG.out _).drew)
        have NS := not_sealed x Y HY.out CS.out k hkl v xn0 xn1 (by rw [← HZ.out]; exact XN.out)
        refine (implVer_no _ mx _ (by rw [changed_size]; omega) NS (M'.out _ K13.out).out (R'.out _ K13.out).out gTabW (T'.out _ K13.out).out).mono ?_
        rintro e w14 ⟨rfl, hb⟩
        have K14 := Lib.hid (K13.out.trans (hb.mono K13.out.size))
        clear hb NS
        go_wp2_with fail
        go_ret
        exact ⟨rfl, K14.out⟩
      | false =>
        go_wp2_with fail
        refine VY.out.mono ?_
        rintro e w11 ⟨rfl, hb⟩
        have K11 := Lib.hid (K10.out.trans (hb.mono K10.out.size))
        obtain ⟨cap, C, hconv, hC1, hC2⟩ := conv_bytes Y w11
        have CC := Lib.hid hC2
        clear hb hC2
        go_wp2_with fail
        refine (VA.out _ ((K11.out.alloc K11.out.size _).drew)).mono ?_
        rintro e w12 ⟨rfl, hw⟩
        have K12 : Hid (Below W.heap.size W w12) := by rw [hw]; exact Lib.hid ((K11.out.alloc K11.out.size _).drew)
        have HC : Hid (∀ (j : Nat) (h : j < Y.size), w12.cell? ⟨w11.heap.size, j, none⟩ = some (.int .u8 (Y[j].toNat : Int))) := Lib.hid (fun j h => by
          rw [hw]
          show (w11.alloc _).cell? _ = _
          rw [World.cell?_alloc_mark]; exact CC.out j h)
        have HF : Hid (∀ (j : Nat), j < Y.size → w12.frozen? ⟨w11.heap.size, j, none⟩ = false) := Lib.hid (fun j h => by
          rw [hw]
          exact marked_free w11 C _ j (by omega))
        have HG : Hid (W.heap.size ≤ w11.heap.size) := Lib.hid K11.out.size
        obtain ⟨k, hkk⟩ : ∃ k : Nat, r9 % (Y.size : Int) = (k : Int) := ⟨(r9 % (Y.size : Int)).toNat, by have := Int.emod_nonneg r9 (show (Y.size : Int) ≠ 0 by omega); omega⟩
        have hkl : k < Y.size := by have := Int.emod_lt_of_pos r9 (show (0 : Int) < (Y.size : Int) by omega); omega
        obtain ⟨zk, hzk⟩ : ∃ zk : Int, zk = (Y[k].toNat : Int) := ⟨_, rfl⟩
        have hcz := HC.out k hkl
        rw [← hzk] at hcz
        have hfz := HF.out k hkl
        have z0 : 0 ≤ zk := by omega
        have z1 : zk ≤ 255 := by have := Y[k].toNat_lt; omega
        have HZ := Lib.hid hzk
        have q0 : 0 ≤ r10 % 255 := by omega
        have q1 : r10 % 255 ≤ 254 := by omega
        have i0 : (0 : Int) ≤ (k : Int) := by omega
        have i1 : (k : Int) < (Y.size : Int) := by omega
        obtain ⟨xn0, xn1, xn2⟩ := xor_new zk (1 + r10 % 255) z0 z1 (by omega) (by omega)
        obtain ⟨v, hv⟩ : ∃ v, bits .xor .u8 zk (1 + r10 % 255) = v := ⟨_, rfl⟩
        rw [hv] at xn0 xn1 xn2
        have XN := Lib.hid xn2
        have hback := conv_back Y w12 w11.heap.size cap k v hkl xn0 xn1 HC.out
        clear hconv hw hC1 hzk xn2
        go_wp2_with fail
        try rw [hkk]
        refine wp_region_still_tail 13 (by kernel_rfl) (by kernel_rfl) ?_
        simp only [List.take_succ_cons, List.take_zero, List.drop_succ_cons, List.drop_zero]
        repeat still_step
        still_call (VB.out _ (K12.out.drew))
        repeat still_step
        refine wpStill_nil ?_
        change wpList _ _ _ _ _ w12.drew
        go_wp2_with fail
        have K13 : Hid (Below W.heap.size W ((w12.setCell ⟨w11.heap.size, k, none⟩ (.int .u8 v)).drew)) := Lib.hid ((K12.out.setCell (p := ⟨w11.heap.size, k, none⟩) HG.out _).drew)
        have NS := not_sealed x Y HY.out CS.out k hkl v xn0 xn1 (by rw [← HZ.out]; exact XN.out)
        refine (implVer_no _ mx _ (by rw [changed_size]; omega) NS (M'.out _ K13.out).out (R'.out _ K13.out).out gTabW (T'.out _ K13.out).out).mono ?_
        rintro e w14 ⟨rfl, hb⟩
        have K14 := Lib.hid (K13.out.trans (hb.mono K13.out.size))
        clear hb NS
        go_wp2_with fail
        go_ret
        exact ⟨rfl, K14.out⟩
    · have NC := Lib.hid hcs
      clear hcs
      go_wp2_with fail
      refine (implSeal_no x w7 xz NC.out (T'.out w7 K7.out).out).mono ?_
      rintro e w8 ⟨rfl, hb⟩
      have K8 := Lib.hid (K7.out.trans (hb.mono K7.out.size))
      clear hb
      go_wp2_with fail
      refine (specSeal_c x w8 xz NC.out).mono ?_
      rintro e w9 ⟨rfl, hb⟩
      have K9 := Lib.hid (K8.out.trans (hb.mono K8.out.size))
      clear hb
      go_wp2_with fail
      refine (implParse_s S2.out w9 sz (T'.out w9 K9.out).out).mono ?_
      rintro e w10 ⟨rfl, hb⟩
      have K10 := Lib.hid (K9.out.trans (hb.mono K9.out.size))
      clear hb
      cases sb with
      | true =>
        obtain ⟨rfl, rfl⟩ := T2.out rfl
        go_wp2_with fail
        go_ret
        exact ⟨rfl, K10.out⟩
      | false =>
        go_wp2_with fail
        go_ret
        exact ⟨rfl, K10.out⟩
end Go.Proofs.YthpkabjgjgmnoaaDoor.fnStrings
