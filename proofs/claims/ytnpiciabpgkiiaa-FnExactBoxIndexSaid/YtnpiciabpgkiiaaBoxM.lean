/- Boxes: whether one is valid, and its index, in the model. -/
import Derived.Test.YtnpiciabpgkiiaaBoxI
import Derived.Test.YtnpiciabpgkiiaaL7M
namespace Go.Proofs.Ytnpiciabpgkiiaa
open Go.RowKit
set_option linter.unusedVariables false
set_option maxHeartbeats 2000000 in
theorem boxS (zs : List Int) (f : Int) (v : Value) (w : World) (hn : zs.length ≤ 1048576) (h : BoxV w w.heap.size v zs f) :
    Calls Try.prog 65 #[v] w (Gives (.bool (boxB zs f)) w) := by
  obtain ⟨p1, c1, rfl⟩ := h.shape
  have hi := h.ints
  have IL := Lib.hid (fun w' (hb : Below w.heap.size w w') => lawS zs _ w.heap.size w' hn (hi.below hb))
  have FF := Lib.hid (fun w => inS f 0 20 w)
  have D : Hid (boxB zs f = (lawB zs && decide (0 ≤ f ∧ f ≤ 20))) := Lib.hid rfl
  have B1 := (Below.refl w.heap.size w).alloc (Nat.le_refl _) (.cells #[.slice p1 zs.length c1, .int .i64 f] 48)
  have T1 := Lib.hid (CBox.new w (.slice p1 zs.length c1) (.int .i64 f))
  obtain ⟨wa, hwa⟩ : ∃ wa, wa = w.alloc (.cells #[.slice p1 zs.length c1, .int .i64 f] 48) := ⟨_, rfl⟩
  rw [← hwa] at B1 T1
  obtain ⟨x0, x1⟩ := T1.out.cells
  have HBA := Lib.hid B1
  clear B1 h hi
  generalize decide (0 ≤ f ∧ f ≤ 20) = fb at *
  cases hl : lawB zs
  · rw [hl] at IL D
    clear hl
    go_enter Try.func65, Try.ntmps65
    go_wp2_with fail
    rw [← hwa]
    clear hwa
    refine (IL.out _ HBA.out).mono ?_
    rintro e w1 ⟨rfl, b1⟩
    have HB1 := Lib.hid (bl_then HBA.out b1)
    clear b1
    go_wp2_with fail
    go_ret
    exact ⟨by rw [D.out]; rfl, HB1.out⟩
  · rw [hl] at IL D
    clear hl
    go_enter Try.func65, Try.ntmps65
    go_wp2_with fail
    rw [← hwa]
    clear hwa
    refine (IL.out _ HBA.out).mono ?_
    rintro e w1 ⟨rfl, b1⟩
    have HB1 := Lib.hid (bl_then HBA.out b1)
    obtain ⟨y0, y1⟩ := (T1.out.below b1 T1.out.lt).cells
    clear b1 x0 x1
    go_wp2_with fail
    refine (FF.out _).mono ?_
    rintro e w1 ⟨rfl, rfl⟩
    go_wp2_with fail
    go_ret
    exact ⟨by rw [D.out]; rfl, HB1.out⟩
theorem isBoxS (zs : List Int) (f : Int) (v : Value) (w : World) (hn : zs.length ≤ 1048576) (h : BoxV w w.heap.size v zs f) :
    Calls Try.prog 34 #[v] w (Gives (.bool (boxB zs f)) w) := by
  obtain ⟨p1, c1, rfl⟩ := h.shape
  have IB := Lib.hid (fun w' (hb : Below w.heap.size w w') => boxS zs f _ w' hn (h.boxed hb))
  have B1 := (Below.refl w.heap.size w).alloc (Nat.le_refl _) (.cells #[.slice p1 zs.length c1, .int .i64 f] 48)
  have T1 := Lib.hid (CBox.new w (.slice p1 zs.length c1) (.int .i64 f))
  obtain ⟨x0, x1⟩ := T1.out.cells
  clear h
  go_enter Try.func34, Try.ntmps34
  go_wp2_with fail
  refine (IB.out _ B1).mono ?_
  rintro e w1 ⟨rfl, b1⟩
  have HB1 := Lib.hid (bl_then B1 b1)
  clear b1
  go_wp2_with fail
  go_ret
  exact ⟨rfl, HB1.out⟩
set_option maxRecDepth 100000 in
set_option maxHeartbeats 4000000 in
theorem indexS7 (zs : List Int) (f : Int) (v : Value) (w : World) (L : Law zs) (hf : 0 ≤ f ∧ f ≤ 20) (h : BoxV w w.heap.size v zs f) :
    Calls Try.prog 66 #[v] w (Gives (.agg #[.int .i64 (boxIdx zs f).1, .int .i64 (boxIdx zs f).2]) w) := by
  obtain ⟨p1, c1, rfl⟩ := h.shape
  have hi := h.ints
  have ndb := boxNd_bd L hf
  have B2 := ((Below.refl w.heap.size w).alloc (Nat.le_refl _) (.cells #[.slice p1 zs.length c1, .int .i64 f] 48)).alloc (by simp) (.cells #[.int .i64 0, .int .i64 0] 26)
  obtain ⟨k0, k1⟩ := alloc_two w (.cells #[.slice p1 zs.length c1, .int .i64 f] 48) (.cells #[.int .i64 0, .int .i64 0] 26)
  obtain ⟨wa, hwa⟩ : ∃ wa, wa = (w.alloc (.cells #[.slice p1 zs.length c1, .int .i64 f] 48)).alloc (.cells #[.int .i64 0, .int .i64 0] 26) := ⟨_, rfl⟩
  rw [← hwa] at B2 k0 k1
  have T1 := Lib.hid (show CBox wa w.heap.size (.slice p1 zs.length c1) (.int .i64 f) from k0)
  have T2 := Lib.hid (show QBox wa (w.heap.size + 1) 0 0 from k1)
  have HBA := Lib.hid B2
  clear B2 k0 k1 h
  obtain ⟨x0, x1⟩ := T1.out.cells
  have NB := Lib.hid (fun k (hk : k ≤ zs.length) => bxN_at L hk)
  have SB := Lib.hid (fun k (hk : k ≤ zs.length) => bxS_at L hk)
  have SMB := Lib.hid (fun k (hk : k ≤ zs.length) => L.sum_bd hk)
  have MOB := Lib.hid (fun k (hk : k ≤ zs.length) => L.mom_bd hk)
  have BD := Lib.hid L.bd
  have N5 := L.n5
  have N1 := L.n1
  have TQ := Lib.hid (fun w' (hb : Below w.heap.size w w') => totSQ zs _ w.heap.size w' (by omega) (fun i hi => by have := BD.out i hi; omega) (hi.below hb))
  have CU := Lib.hid (fun k (hk : k ≤ zs.length) (hN : 0 < bxN zs k) w => show Calls Try.prog 75 #[.int .i64 (bxS zs k - boxNd zs f), .int .i64 (bxN zs k)] w (Gives (.agg #[.int .i64 (bxZ zs (boxNd zs f) k).1, .int .i64 (bxZ zs (boxNd zs f) k).2]) w) from by
    have a := NB.out k hk
    have b := SB.out k hk
    exact cutS (bxS zs k - boxNd zs f) (bxN zs k) w (by omega) (by omega))
  have NG : IntKind.i64.wrap (f * smT zs zs.length) = boxNd zs f := IntWalk.i64_in _ (by have := ndb; unfold boxNd at this; omega)
  have C0 := Lib.hid (CU.out 0 (Nat.zero_le _) (bxN_zero L))
  rw [show bxS zs 0 = moT zs zs.length by unfold bxS; simp [moT], show bxN zs 0 = smT zs zs.length by unfold bxN; simp [smT]] at C0
  have RS := Lib.hid (fun k => show bxR zs (boxNd zs f) (k + 1) = if 0 < bxN zs (k + 1) ∧ boxNd zs f ≤ bxS zs (k + 1) - (k : Int) * bxN zs (k + 1) then bxZ zs (boxNd zs f) (k + 1) else bxR zs (boxNd zs f) k from rfl)
  have R0 := Lib.hid (show bxR zs (boxNd zs f) 0 = bxZ zs (boxNd zs f) 0 from rfl)
  have DN := Lib.hid (fun k => show bxN zs k = smT zs zs.length - smT zs k from rfl)
  have DS := Lib.hid (fun k => show bxS zs k = moT zs zs.length - moT zs k from rfl)
  have ST := Lib.hid (fun k => show smT zs (k + 1) = smT zs k + zs.getD k 0 from rfl)
  have MT := Lib.hid (fun k => show moT zs (k + 1) = moT zs k + (k : Int) * zs.getD k 0 from rfl)
  unfold boxIdx
  obtain ⟨nd, hnd⟩ : ∃ nd, nd = boxNd zs f := ⟨_, rfl⟩
  rw [← hnd] at ndb CU NG C0 RS R0 ⊢
  obtain ⟨q0, d0, e0, _, _, _, iq⟩ := hi
  injection e0 with e1 e2 e3
  subst e1
  have E1 := Lib.hid iq
  have TQ2 := Lib.hid (fun n' => TQ.out (wa.drewN n') (below_drewN HBA.out n'))
  clear iq e2 e3 L hnd
  go_enter Try.func66, Try.ntmps66
  go_wp2_with fail
  rw [← hwa]
  clear hwa
  go_quiet ((go_at_call 76; exact quiet_left (TQ2.out _)))
  obtain ⟨wb, hwb⟩ : ∃ wb, wb = wa.drewN nq := ⟨_, rfl⟩
  have HBB : Hid (Below w.heap.size w wb) := by rw [hwb]; exact Lib.hid (below_drewN HBA.out _)
  have TB1 : Hid (CBox wb w.heap.size (.slice p1 zs.length c1) (.int .i64 f)) := by rw [hwb]; exact T1
  have TB2 : Hid (QBox wb (w.heap.size + 1) 0 0) := by rw [hwb]; exact T2
  rw [← hwb]
  clear hwb TQ2 HBA T1 T2 x0 x1
  obtain ⟨y0, y1⟩ := TB1.out.cells
  have E2 := Lib.hid (fun j (hj : j < zs.length) => (show ∃ b off, p1 = some ⟨b, off, none⟩ ∧ wb.cell? ⟨b, off + j, none⟩ = some (.int .i64 (zs.getD j 0)) from by
    obtain ⟨b, off, e, hb, hc⟩ := E1.out.get hj
    exact ⟨b, off, e, by rw [HBB.out.cell (p := ⟨b, off + j, none⟩) hb]; exact hc⟩))
  clear E1
  go_wp2_with fail
  go_loopg [4] zs.length (fun gg i wr => ∃ k : Nat, k ≤ zs.length - 1 ∧ k ≤ gg ∧ i = .int .i64 k ∧ Hid (bxR zs nd (zs.length - 1) = bxR zs nd k) ∧ wr = wb)
  case atStart => exact ⟨zs.length - 1, Nat.le_refl _, by omega, by rw [show ((zs.length - 1 : Nat) : Int) = (zs.length : Int) - 1 by omega], Lib.hid rfl, rfl⟩
  case round =>
    obtain ⟨k, hk, hgg, rfl, HR, rfl⟩ := hrel
    rcases Nat.eq_zero_or_pos k with h0 | hpos
    · subst h0
      have EQ := Lib.hid (show bxR zs nd (zs.length - 1) = bxZ zs nd 0 by rw [HR.out, R0.out])
      obtain ⟨P, hP⟩ : ∃ P, P = (bxZ zs nd 0).1 := ⟨_, rfl⟩
      obtain ⟨Q, hQ⟩ : ∃ Q, Q = (bxZ zs nd 0).2 := ⟨_, rfl⟩
      have EP := Lib.hid (And.intro hP hQ)
      rw [← hP, ← hQ] at C0
      clear hP hQ HR R0 RS CU NG
      have z0 : ¬ (0 : Int) < ((0 : Nat) : Int) := by omega
      go_wp2_with fail
      go_loopg [8, 9] zs.length (fun gg s i wq => ∃ m : Nat, m ≤ zs.length ∧ zs.length - m ≤ gg ∧ i = .int .i64 m ∧ s = .int .i64 (moT zs m) ∧ wq = wr)
      case atStart => exact ⟨0, Nat.zero_le _, by omega, rfl, rfl, rfl⟩
      case round =>
        obtain ⟨m, hm, hgg, rfl, rfl, rfl⟩ := hrel
        by_cases hlt : m < zs.length
        · obtain ⟨b, off, rfl, hc⟩ := E2.out m hlt
          have i0 : (0 : Int) ≤ (m : Int) := by omega
          have i1 : (m : Int) < (zs.length : Int) := by omega
          have mb := MOB.out m hm
          have zb := BD.out m hlt
          have p0 : 0 ≤ (m : Int) * zs.getD m 0 := Int.mul_nonneg i0 zb.1
          have p1 : (m : Int) * zs.getD m 0 ≤ 5 * 5 := Int.mul_le_mul (by omega) zb.2 zb.1 (by omega)
          have WR : IntKind.i64.wrap ((m : Int) * zs.getD m 0) = (m : Int) * zs.getD m 0 := IntWalk.i64_in _ (by omega)
          have mt := Lib.hid (MT.out m)
          obtain ⟨z, hz⟩ : ∃ z, z = zs.getD m 0 := ⟨_, rfl⟩
          rw [← hz] at hc zb p0 p1 WR mt
          obtain ⟨s, hs⟩ : ∃ s, s = moT zs m := ⟨_, rfl⟩
          rw [← hs] at mb mt ⊢
          clear hz hs
          go_wp2_with fail
          go_roundg (zs.length - (m + 1))
          case rel => exact ⟨m + 1, by omega, by omega, by go_num, by rw [mt.out], rfl⟩
          case measure => omega
        · have hmz : m = zs.length := by omega
          have mb := MOB.out zs.length (Nat.le_refl _)
          have FIN := Lib.hid (show moT zs m = moT zs zs.length by rw [hmz])
          have i1 : ¬ (m : Int) < (zs.length : Int) := by omega
          rw [FIN.out]
          clear hmz FIN
          have T3 := Lib.hid (TQ.out _ HBB.out)
          generalize moT zs zs.length = S at *
          generalize smT zs zs.length = T at *
          clear TQ
          go_wp2_with fail
          refine T3.out.mono ?_
          rintro e w3 ⟨rfl, rfl⟩
          go_wp2_with fail
          refine (C0.out _).mono ?_
          rintro e w4 ⟨rfl, b4⟩
          have HF := Lib.hid (bl_then HBB.out b4)
          obtain ⟨⟨c0, c1⟩, f0, f1⟩ := (TB2.out.below b4 TB2.out.lt).cells
          clear b4
          go_wp2_with fail
          refine bodyPost_ret (v := .agg #[.int .i64 P, .int .i64 Q]) (by simp [results, Try.results66, go_sem, c0, c1]) rfl ⟨by rw [EQ.out, ← EP.out.1, ← EP.out.2], ?_⟩
          exact bl_st HF.out (by omega) _ _
    · obtain ⟨j, rfl⟩ : ∃ j, k = j + 1 := ⟨k - 1, by omega⟩
      have z0 : (0 : Int) < ((j + 1 : Nat) : Int) := by omega
      have RJ := Lib.hid (RS.out j)
      have CJ := Lib.hid (CU.out (j + 1) (by omega))
      have sbk := SB.out (j + 1) (by omega)
      have nbk := NB.out (j + 1) (by omega)
      have dn := DN.out (j + 1)
      have ds := DS.out (j + 1)
      obtain ⟨k, hkE⟩ : ∃ k, k = j + 1 := ⟨_, rfl⟩
      have HK := Lib.hid hkE
      rw [← hkE] at z0 RJ CJ sbk nbk dn ds HR hk hgg ⊢
      have hj1 : (k : Int) - 1 = (j : Int) := by omega
      have hj5 : (j : Int) ≤ 5 := by omega
      clear hkE hpos
      go_wp2_with fail
      go_loopg [5, 6, 7] zs.length (fun gg t s i wq => ∃ m : Nat, k ≤ m ∧ m ≤ zs.length ∧ zs.length - m ≤ gg ∧ i = .int .i64 m ∧ t = .int .i64 (smT zs m - smT zs k) ∧ s = .int .i64 (moT zs m - moT zs k) ∧ wq = wr)
      case atStart => exact ⟨k, Nat.le_refl _, by omega, by omega, rfl, by simp, by simp, rfl⟩
      case round =>
        obtain ⟨m, hkm, hm, hgg2, rfl, rfl, rfl, rfl⟩ := hrel
        by_cases hlt : m < zs.length
        · obtain ⟨b, off, rfl, hc⟩ := E2.out m hlt
          have i0 : (0 : Int) ≤ (m : Int) := by omega
          have i1 : (m : Int) < (zs.length : Int) := by omega
          have mb := MOB.out m hm
          have sb := SMB.out m hm
          have mbk := MOB.out k (by omega)
          have sbk := SMB.out k (by omega)
          have zb := BD.out m hlt
          have p0 : 0 ≤ (m : Int) * zs.getD m 0 := Int.mul_nonneg i0 zb.1
          have p1 : (m : Int) * zs.getD m 0 ≤ 5 * 5 := Int.mul_le_mul (by omega) zb.2 zb.1 (by omega)
          have WR : IntKind.i64.wrap ((m : Int) * zs.getD m 0) = (m : Int) * zs.getD m 0 := IntWalk.i64_in _ (by omega)
          have mt := MT.out m
          have st := ST.out m
          obtain ⟨z, hz⟩ : ∃ z, z = zs.getD m 0 := ⟨_, rfl⟩
          rw [← hz] at hc zb p0 p1 WR mt st
          have mt2 := Lib.hid (show moT zs (m + 1) - moT zs k = moT zs m - moT zs k + (m : Int) * z by omega)
          have st2 := Lib.hid (show smT zs (m + 1) - smT zs k = smT zs m - smT zs k + z by omega)
          obtain ⟨s, hs⟩ : ∃ s, s = moT zs m - moT zs k := ⟨_, rfl⟩
          obtain ⟨t, ht⟩ : ∃ t, t = smT zs m - smT zs k := ⟨_, rfl⟩
          have sb2 : -125 ≤ s ∧ s ≤ 125 := by omega
          have tb2 : -25 ≤ t ∧ t ≤ 25 := by omega
          rw [← hs, ← ht]
          rw [← hs] at mt2
          rw [← ht] at st2
          clear hz hs ht mt st mb sb mbk sbk
          go_wp2_with fail
          go_roundg (zs.length - (m + 1))
          case rel => exact ⟨m + 1, by omega, by omega, by omega, by go_num, by rw [st2.out], by rw [mt2.out], rfl⟩
          case measure => omega
        · have hmz : m = zs.length := by omega
          have i1 : ¬ (m : Int) < (zs.length : Int) := by omega
          have e1 := Lib.hid (show smT zs m - smT zs k = bxN zs k by rw [hmz, dn])
          have e2 := Lib.hid (show moT zs m - moT zs k = bxS zs k by rw [hmz, ds])
          rw [e1.out, e2.out]
          clear e1 e2 dn ds hmz hm hkm
          obtain ⟨t, ht⟩ : ∃ t, t = bxN zs k := ⟨_, rfl⟩
          obtain ⟨s, hs⟩ : ∃ s, s = bxS zs k := ⟨_, rfl⟩
          rw [← ht] at RJ CJ nbk ⊢
          rw [← hs] at RJ CJ sbk ⊢
          have p0 : 0 ≤ (j : Int) * t := Int.mul_nonneg (by omega) nbk.1
          have p1 : (j : Int) * t ≤ 5 * 25 := Int.mul_le_mul hj5 nbk.2 nbk.1 (by omega)
          have WR : IntKind.i64.wrap ((j : Int) * t) = (j : Int) * t := IntWalk.i64_in _ (by omega)
          have WS : IntKind.i64.wrap (((k : Int) - 1) * t) = (j : Int) * t := by rw [hj1]; exact WR
          clear ht hs
          by_cases hN : 0 < t
          · by_cases hge : nd ≤ s - (j : Int) * t
            · have NEW := Lib.hid (show bxR zs nd (zs.length - 1) = bxZ zs nd k by rw [HR.out, RJ.out, if_pos ⟨hN, hge⟩])
              have C1 := Lib.hid (CJ.out hN)
              obtain ⟨P, hP⟩ : ∃ P, P = (bxZ zs nd k).1 := ⟨_, rfl⟩
              obtain ⟨Q, hQ⟩ : ∃ Q, Q = (bxZ zs nd k).2 := ⟨_, rfl⟩
              have EP := Lib.hid (And.intro hP hQ)
              rw [← hP, ← hQ] at C1
              clear CJ RJ HR CU RS R0 C0 hP hQ
              go_wp2_with fail
              refine (C1.out _).mono ?_
              rintro e w4 ⟨rfl, b4⟩
              have HF := Lib.hid (bl_then HBB.out b4)
              obtain ⟨⟨c0, c1⟩, f0, f1⟩ := (TB2.out.below b4 TB2.out.lt).cells
              clear b4
              go_wp2_with fail
              refine bodyPost_ret (v := .agg #[.int .i64 P, .int .i64 Q]) (by simp [results, Try.results66, go_sem, c0, c1]) rfl ⟨by rw [NEW.out, ← EP.out.1, ← EP.out.2], ?_⟩
              exact bl_st HF.out (by omega) _ _
            · have NEW := Lib.hid (show bxR zs nd (zs.length - 1) = bxR zs nd j by rw [HR.out, RJ.out, if_neg (fun h => hge h.2)])
              have hge2 : s - (j : Int) * t < nd := by omega
              clear CJ RJ HR CU RS
              go_wp2_with fail
              go_roundg j
              case rel => exact ⟨j, by have := HK.out; omega, by omega, by rw [← hj1], NEW, rfl⟩
              case measure => have := HK.out; omega
          · have NEW := Lib.hid (show bxR zs nd (zs.length - 1) = bxR zs nd j by rw [HR.out, RJ.out, if_neg (fun h => hN h.1)])
            clear CJ RJ HR CU RS
            go_wp2_with fail
            go_roundg j
            case rel => exact ⟨j, by have := HK.out; omega, by omega, by rw [← hj1], NEW, rfl⟩
            case measure => have := HK.out; omega
set_option maxRecDepth 100000 in
set_option maxHeartbeats 2000000 in
theorem boxIndexS (zs : List Int) (f : Int) (v : Value) (w : World) (hn : zs.length ≤ 1048576) (h : BoxV w w.heap.size v zs f) :
    Calls Try.prog 38 #[v] w (Gives (boxIdxV zs f) w) := by
  obtain ⟨p1, c1, rfl⟩ := h.shape
  have IB := Lib.hid (fun w' (hb : Below w.heap.size w w') => boxS zs f _ w' hn (h.boxed hb))
  have B2 := ((Below.refl w.heap.size w).alloc (Nat.le_refl _) (.cells #[.slice p1 zs.length c1, .int .i64 f] 48)).alloc (by simp) (.cells #[.int .i64 0, .int .i64 0] 26)
  obtain ⟨k0, k1⟩ := alloc_two w (.cells #[.slice p1 zs.length c1, .int .i64 f] 48) (.cells #[.int .i64 0, .int .i64 0] 26)
  obtain ⟨wa, hwa⟩ : ∃ wa, wa = (w.alloc (.cells #[.slice p1 zs.length c1, .int .i64 f] 48)).alloc (.cells #[.int .i64 0, .int .i64 0] 26) := ⟨_, rfl⟩
  rw [← hwa] at B2 k0 k1
  have T1 := Lib.hid (show CBox wa w.heap.size (.slice p1 zs.length c1) (.int .i64 f) from k0)
  have T2 := Lib.hid (show QBox wa (w.heap.size + 1) 0 0 from k1)
  have HBA := Lib.hid B2
  clear B2 k0 k1
  obtain ⟨x0, x1⟩ := T1.out.cells
  cases hb : boxB zs f
  · rw [show boxIdxV zs f = .tuple #[.agg #[.int .i64 0, .int .i64 0], .bool false] from if_neg (by rw [hb]; decide)]
    rw [hb] at IB
    clear hb h
    go_enter Try.func38, Try.ntmps38
    go_wp2_with fail
    rw [← hwa]
    clear hwa
    refine (IB.out _ HBA.out).mono ?_
    rintro e w1 ⟨rfl, b1⟩
    have HB1 := Lib.hid (bl_then HBA.out b1)
    obtain ⟨⟨c0, c1⟩, f0, f1⟩ := (T2.out.below b1 T2.out.lt).cells
    clear b1 x0 x1
    go_wp2_with fail
    refine bodyPost_ret (v := .tuple #[.agg #[.int .i64 0, .int .i64 0], .bool false]) (by simp [results, Try.results38, go_sem, c0, c1]) rfl ⟨rfl, ?_⟩
    exact bl_st HB1.out (by omega) _ _
  · obtain ⟨L, hf⟩ := boxB_law hb
    have IX := Lib.hid (fun w' (hb : Below w.heap.size w w') => indexS7 zs f _ w' L hf (h.boxed hb))
    have n1 := L.n1
    have KP := Lib.hid (fun w => keptS_yes (boxIdx zs f).1 (boxIdx zs f).2 w (bxR_fr L (boxNd_bd L hf) _ (by omega)))
    rw [show boxIdxV zs f = .tuple #[.agg #[.int .i64 (boxIdx zs f).1, .int .i64 (boxIdx zs f).2], .bool true] from if_pos hb]
    rw [hb] at IB
    generalize (boxIdx zs f).1 = P at *
    generalize (boxIdx zs f).2 = Q at *
    clear hb h L n1
    go_enter Try.func38, Try.ntmps38
    go_wp2_with fail
    rw [← hwa]
    clear hwa
    refine (IB.out _ HBA.out).mono ?_
    rintro e w1 ⟨rfl, b1⟩
    have HB1 := Lib.hid (bl_then HBA.out b1)
    have HT1 := Lib.hid (T1.out.below b1 T1.out.lt)
    have HT2 := Lib.hid (T2.out.below b1 T2.out.lt)
    obtain ⟨y0, y1⟩ := HT1.out.cells
    clear b1 x0 x1
    go_wp2_with fail
    refine (IX.out _ HB1.out).mono ?_
    rintro e w2 ⟨rfl, b2⟩
    have HB2 := Lib.hid (bl_then HB1.out b2)
    have HT3 := Lib.hid (HT2.out.below b2 HT2.out.lt)
    clear b2
    go_wp2_with fail
    refine (KP.out _).mono ?_
    rintro e w3 ⟨rfl, b3⟩
    have HB3 := Lib.hid (bl_then HB2.out b3)
    obtain ⟨⟨c0, c1⟩, f0, f1⟩ := (HT3.out.below b3 HT3.out.lt).cells
    clear b3
    go_wp2_with fail
    refine bodyPost_ret (v := .tuple #[.agg #[.int .i64 P, .int .i64 Q], .bool true]) (by simp [results, Try.results38, go_sem, c0, c1]) rfl ⟨rfl, ?_⟩
    exact bl_st HB3.out (by omega) _ _
end Go.Proofs.Ytnpiciabpgkiiaa
