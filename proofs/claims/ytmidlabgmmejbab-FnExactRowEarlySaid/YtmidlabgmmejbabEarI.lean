/- RowEarly in the program. -/
import Derived.Test.YtmidlabgmmejbabEarP
import Derived.Test.YtmidlabgmmejbabTabG
import Derived.Test.YtmidlabgmmejbabRwJ
import Derived.Test.YtmidlabgmmejbabClone
import Derived.Test.YtmidlabgmmejbabRes
import Derived.Deep.LoopGhost
import Derived.Deep.RegionHeld3
import Derived.Deep.DeepCutAuto
import Derived.BigRegion
namespace Go.Proofs.Ytmidlabgmmejbab
open Go.RowKit
set_option linter.unusedVariables false
set_option maxRecDepth 100000 in
set_option maxHeartbeats 4000000 in
theorem isTabC (N U D R : Nat) (f : Nat → List Int) (v : Value) (w : World) (hN : N ≤ 4) (hf : ∀ i, i < R → (f i).length ≤ 1048576) (h : TabV w w.heap.size v R f) :
    Calls Try.prog 111 #[rwR N U D, v] w (Gives (.bool (decide ((R : Int) = (N : Int) + 1) && tabB f R)) w) := by
  obtain ⟨p, cap, rfl, hc, hm, hS⟩ := h
  have S := Lib.hid hS
  have LE := Lib.hid hf
  unfold maxLen at hm
  unfold rwR
  clear hS hf
  obtain ⟨wa, hwa⟩ : ∃ wa, wa = w.alloc (.cells #[.int .i64 (N : Int), .int .i64 (U : Int), .int .i64 (D : Int)] 126) := ⟨_, rfl⟩
  have B1 := Lib.hid (show Below w.heap.size w wa by rw [hwa]; exact (Below.refl _ _).alloc (Nat.le_refl _) _)
  have T1 := Lib.hid (show RwB wa w.heap.size N U D by rw [hwa]; exact alloc_heap w _)
  obtain ⟨x0, x1, x2⟩ := T1.out.cells
  by_cases hR : (R : Int) = (N : Int) + 1
  · rw [decide_eq_true hR]
    have t1 : ((R : Int) != (N : Int) + 1) = false := by simpa using hR
    clear hR
    have TZ := Lib.hid (tabB_zero f)
    have TN := Lib.hid (fun k (h : tabB f k = true) hk => tabB_next (f := f) (k := k) h hk)
    have TX := Lib.hid (fun k (h : k < R) hk => tabB_no (f := f) (k := k) (R := R) h hk)
    have RT := Lib.hid (fun (b : Bool) (h : tabB f R = b) => show Ending.returned (.bool b) = .returned (.bool (true && tabB f R)) by rw [h]; rfl)
    obtain ⟨tb, htb⟩ : ∃ t, t = tabB f R := ⟨_, rfl⟩
    rw [← htb] at TX RT ⊢
    have HTB := Lib.hid htb
    clear htb
    go_enter Try.func111, Try.ntmps111
    go_wp2_with fail
    rw [← hwa]
    clear hwa x0 x1 x2
    go_loopg [15] R (fun gg t wr => ∃ k : Nat, k ≤ R ∧ R - k ≤ gg ∧ t = .int .i64 k ∧ Hid (tabB f k = true) ∧ Hid (Below w.heap.size w wr))
    case atStart => exact ⟨0, Nat.zero_le _, by omega, rfl, TZ, B1⟩
    case round =>
      obtain ⟨k, hk, hgg, rfl, HA, HB⟩ := hrel
      by_cases hlt : k < R
      · obtain ⟨b, off, z, rfl, hB, hc0, hz⟩ := S.out k hlt
        have hcr : wr.cell? ⟨b, off + k, none⟩ = some z := by rw [HB.out.cell (p := ⟨b, off + k, none⟩) hB]; exact hc0
        have WI := Lib.hid (withinI (f k) z ((k : Int) + 1) 999 wr (by omega) (LE.out k hlt) ((hz.below HB.out).more HB.out.size))
        obtain ⟨qz, cz, rfl, _⟩ := hz
        have i0 : (0 : Int) ≤ (k : Int) := by omega
        have i1 : (k : Int) < (R : Int) := by omega
        have NX := Lib.hid (TN.out k HA.out)
        have NO := Lib.hid (TX.out k hlt)
        generalize (decide (((f k).length : Int) = (k : Int) + 1) && withinB 999 (f k)) = t at *
        clear hc0 HA
        cases t
        · have N2 := Lib.hid (NO.out rfl)
          clear NX NO
          go_wp2_with fail
          refine WI.out.mono ?_
          rintro e w1 ⟨rfl, b1⟩
          have HB1 := Lib.hid (HB.out.trans (b1.mono HB.out.size))
          clear b1
          go_wp2_with fail
          go_ret
          exact ⟨RT.out _ N2.out, HB1.out⟩
        · have N2 := Lib.hid (NX.out rfl)
          clear NX NO
          go_wp2_with fail
          refine WI.out.mono ?_
          rintro e w1 ⟨rfl, b1⟩
          have HB1 := Lib.hid (HB.out.trans (b1.mono HB.out.size))
          clear b1
          go_wp2_with fail
          go_roundg (R - (k + 1))
          case rel => exact ⟨k + 1, by omega, by omega, by go_num, N2, HB1⟩
          case measure => omega
      · obtain rfl : k = R := by omega
        go_wp2_with fail
        go_ret
        exact ⟨RT.out _ (HTB.out.trans HA.out), HB.out⟩
  · rw [decide_eq_false hR]
    have t1 : ((R : Int) != (N : Int) + 1) = true := by simpa using hR
    clear hR
    go_enter Try.func111, Try.ntmps111
    go_wp2_with fail
    go_ret
    rw [← hwa]
    exact ⟨rfl, B1.out⟩
def eaV (n u d : Int) (R : Nat) (f : Nat → List Int) : Value := if tabOk n u d R f = true then keptV (cutN (eaF u d f n.toNat n.toNat 0) (((u.toNat + d.toNat) ^ n.toNat : Nat) : Int)) (cutD (eaF u d f n.toNat n.toNat 0) (((u.toNat + d.toNat) ^ n.toNat : Nat) : Int)) else zeroP
theorem eaV_form (n u d : Int) (R : Nat) (f : Nat → List Int) : ∃ p q ok, eaV n u d R f = .tuple #[.agg #[.int .i64 p, .int .i64 q], .bool ok] := by
  unfold eaV zeroP; split
  · exact keptV_form _ _
  · exact ⟨_, _, _, rfl⟩
set_option maxRecDepth 100000 in
set_option maxHeartbeats 16000000 in
theorem earI (n u d : Int) (R : Nat) (f : Nat → List Int) (v : Value) (w : World) (hf : ∀ i, i < R → (f i).length ≤ 1048576) (h : TabV w w.heap.size v R f) :
    Calls Try.prog 60 #[.int .i64 n, .int .i64 u, .int .i64 d, v] w (Gives (eaV n u d R f) w) := by
  have RC := Lib.hid (fun w => rowC n u d w)
  have RV := Lib.hid (show rowV n u d = if rowOk n u d = true then .tuple #[.agg #[.int .i64 n, .int .i64 u, .int .i64 d], .bool true] else .tuple #[.agg #[.int .i64 0, .int .i64 0, .int .i64 0], .bool false] from rfl)
  have EV := Lib.hid (show eaV n u d R f = if tabOk n u d R f = true then keptV (cutN (eaF u d f n.toNat n.toNat 0) (((u.toNat + d.toNat) ^ n.toNat : Nat) : Int)) (cutD (eaF u d f n.toNat n.toNat 0) (((u.toNat + d.toNat) ^ n.toNat : Nat) : Int)) else zeroP from rfl)
  have TO := Lib.hid (show tabOk n u d R f = (rowOk n u d && (decide ((R : Int) = n + 1) && tabB f R)) from rfl)
  have TI := Lib.hid (fun N U D (hN : N ≤ 4) w' (hb : Below w.heap.size w w') => isTabC N U D R f v w' hN hf ((h.below hb).more hb.size))
  have HT := Lib.hid h
  have LE := Lib.hid hf
  obtain ⟨p, cap, rfl, _, hm, _⟩ := h
  unfold maxLen at hm
  clear hf
  obtain ⟨wa, hwa⟩ : ∃ wa, wa = w.alloc (.cells #[.int .i64 0, .int .i64 0] 57) := ⟨_, rfl⟩
  have B1 := Lib.hid (show Below w.heap.size w wa by rw [hwa]; exact (Below.refl _ _).alloc (Nat.le_refl _) _)
  have Q1 := Lib.hid (show QBox wa w.heap.size 0 0 by rw [hwa]; exact QBox.new _ _ _)
  cases hr : rowOk n u d
  · have E0 := Lib.hid (show eaV n u d R f = zeroP by rw [EV.out, TO.out, hr]; rfl)
    rw [hr, if_neg (by decide)] at RV
    rw [RV.out] at RC
    rw [E0.out]
    unfold zeroP
    clear hr RV EV TO TI
    go_enter Try.func60, Try.ntmps60
    go_wp2_with fail
    rw [← hwa]
    clear hwa
    refine (RC.out _).mono ?_
    rintro e w1 ⟨rfl, b1⟩
    have b2 := b1.alloc b1.size (.cells #[.int .i64 0, .int .i64 0, .int .i64 0] 126)
    have HB2 := Lib.hid (B1.out.trans (b2.mono B1.out.size))
    obtain ⟨⟨r0, r1⟩, f0, f1⟩ := (Q1.out.below b2 Q1.out.lt).cells
    clear b1 b2
    go_wp2_with fail
    refine bodyPost_ret (v := .tuple #[.agg #[.int .i64 0, .int .i64 0], .bool false]) (by simp [results, Try.results60, go_sem, r0, r1]) rfl ⟨rfl, ?_⟩
    exact (HB2.out.setCell (p := ⟨w.heap.size, 0, none⟩) (Nat.le_refl _) _).setCell (p := ⟨w.heap.size, 1, none⟩) (Nat.le_refl _) _
  obtain ⟨N, U, D, rfl, rfl, rfl, hN, hU, hD⟩ := row_mk hr
  rw [hr, if_pos rfl] at RV
  rw [RV.out] at RC
  have TI2 := Lib.hid (TI.out N U D hN)
  unfold rwR at TI2
  clear RV TI
  cases ht : (decide ((R : Int) = (N : Int) + 1) && tabB f R)
  · have E0 := Lib.hid (show eaV N U D R f = zeroP by rw [EV.out, TO.out, hr, ht]; rfl)
    rw [ht] at TI2
    rw [E0.out]
    unfold zeroP
    clear hr EV TO ht
    go_enter Try.func60, Try.ntmps60
    go_wp2_with fail
    rw [← hwa]
    clear hwa
    refine (RC.out _).mono ?_
    rintro e w1 ⟨rfl, b1⟩
    obtain ⟨w2, hw2⟩ : ∃ w2, w2 = w1.alloc (.cells #[.int .i64 (N : Int), .int .i64 (U : Int), .int .i64 (D : Int)] 126) := ⟨_, rfl⟩
    have b2 : Below wa.heap.size wa w2 := by rw [hw2]; exact b1.alloc b1.size _
    have HB2 := Lib.hid (B1.out.trans (b2.mono B1.out.size))
    have Q2 := Lib.hid (Q1.out.below b2 Q1.out.lt)
    have T2 := Lib.hid (show RwB w2 w1.heap.size N U D by rw [hw2]; exact alloc_heap w1 _)
    clear b1 b2
    obtain ⟨x0, x1, x2⟩ := T2.out.cells
    rw [hw2] at x0 x1 x2
    go_wp2_with fail
    rw [← hw2]
    clear hw2 x0 x1 x2
    refine (TI2.out _ HB2.out).mono ?_
    rintro e w3 ⟨rfl, b3⟩
    have HB3 := Lib.hid (HB2.out.trans (b3.mono HB2.out.size))
    obtain ⟨⟨r0, r1⟩, f0, f1⟩ := (Q2.out.below b3 Q2.out.lt).cells
    clear b3
    go_wp2_with fail
    refine bodyPost_ret (v := .tuple #[.agg #[.int .i64 0, .int .i64 0], .bool false]) (by simp [results, Try.results60, go_sem, r0, r1]) rfl ⟨rfl, ?_⟩
    exact (HB3.out.setCell (p := ⟨w.heap.size, 0, none⟩) (Nat.le_refl _) _).setCell (p := ⟨w.heap.size, 1, none⟩) (Nat.le_refl _) _
  rw [ht] at TI2
  have ht2 := ht
  rw [Bool.and_eq_true, decide_eq_true_iff] at ht2
  obtain ⟨hRN, htb⟩ := ht2
  obtain rfl : R = N + 1 := by omega
  have E0 := Lib.hid (show eaV N U D (N + 1) f = keptV (cutN (eaF U D f N N 0) (((U + D) ^ N : Nat) : Int)) (cutD (eaF U D f N N 0) (((U + D) ^ N : Nat) : Int)) by
    rw [EV.out, TO.out, hr, ht]; simp)
  rw [E0.out]
  have TB := Lib.hid (fun t (h : t < N + 1) => tabB_at htb h)
  have ZB := Lib.hid (fun t k (h : t < N + 1) (hk : k < t + 1) => within_at (tabB_at htb h).2 (i := k) (by rw [(tabB_at htb h).1]; exact hk))
  have SM := Lib.hid (fun (j k : Nat) (hj : j ≤ N) (hk : k ≤ N - j) => ea_small (u := (U : Int)) (d := (D : Int)) (f := f) (n := N) (by omega) (by omega) hN htb hj hk)
  have BT := Lib.hid (fun k (hk : k ≤ 4) w => btC N U D k w hU hD hk)
  have BH := Lib.hid (fun x y w (hx : (x * (D : Int)).natAbs ≤ 943839216) (hy : (y * (U : Int)).natAbs ≤ 943839216) => bhC N U D x y w hx hy)
  unfold rwR at BT BH
  have PW := Lib.hid (fun k (hk : k ≤ 4) => pow18 (b := U + D) (k := k) (by omega) hk)
  have PP := Lib.hid (fun k => pow_pos1 (b := U + D) k (by omega))
  have RD := Lib.hid (fun w => reduceI_pos (eaF U D f N N 0) (((U + D) ^ N : Nat) : Int) w (by have := SM.out N 0 (Nat.le_refl _) (Nat.zero_le _); omega) (by have := PW.out N hN; have := PP.out N; omega))
  obtain ⟨kp, kq, okk, hK⟩ := keptV_form (cutN (eaF U D f N N 0) (((U + D) ^ N : Nat) : Int)) (cutD (eaF U D f N N 0) (((U + D) ^ N : Nat) : Int))
  rw [hK] at RD ⊢
  have hUb := hU
  have hDb := hD
  clear hr EV TO ht htb E0 hK hRN
  go_enter Try.func60, Try.ntmps60
  go_wp2_with fail
  rw [← hwa]
  clear hwa
  refine (RC.out _).mono ?_
  rintro e w1 ⟨rfl, b1⟩
  have s1 := b1.size
  obtain ⟨w2, hw2⟩ : ∃ w2, w2 = w1.alloc (.cells #[.int .i64 (N : Int), .int .i64 (U : Int), .int .i64 (D : Int)] 126) := ⟨_, rfl⟩
  have b2 : Below wa.heap.size wa w2 := by rw [hw2]; exact b1.alloc b1.size _
  have HB2 := Lib.hid (B1.out.trans (b2.mono B1.out.size))
  have Q2 := Lib.hid (Q1.out.below b2 Q1.out.lt)
  have T2 := Lib.hid (show RwB w2 w1.heap.size N U D by rw [hw2]; exact alloc_heap w1 _)
  have sa := Q1.out.lt
  clear b1 b2 RC
  obtain ⟨x0, x1, x2⟩ := T2.out.cells
  rw [hw2] at x0 x1 x2
  go_wp2_with fail
  rw [← hw2]
  clear hw2 x0 x1 x2
  refine (TI2.out _ HB2.out).mono ?_
  rintro e w3 ⟨rfl, b3⟩
  have HB3 := Lib.hid (HB2.out.trans (b3.mono HB2.out.size))
  have Q3 := Lib.hid (Q2.out.below b3 Q2.out.lt)
  have T3 := Lib.hid (T2.out.next b3)
  clear b3 TI2 Q1 Q2 T2 B1 HB2
  obtain ⟨p', cap', e1, _, _, hS⟩ := HT.out
  injection e1 with e1 _ _
  subst e1
  have S := Lib.hid hS
  obtain ⟨b, off, z, hp, hB, hc0, hz⟩ := hS N (by omega)
  subst hp
  have hcr : w3.cell? ⟨b, off + N, none⟩ = some z := by rw [HB3.out.cell (p := ⟨b, off + N, none⟩) hB]; exact hc0
  have hlN := (TB.out N (by omega)).1
  have CI := Lib.hid (cloneI (f N) z w3 (by omega) (by omega) ((hz.below HB3.out).more HB3.out.size))
  have ST := Lib.hid (ea_start (u := (U : Int)) (d := (D : Int)) (f := f) (n := N) hlN)
  obtain ⟨qz, cz, rfl, _⟩ := hz
  have i0 : (0 : Int) ≤ (N : Int) := by omega
  have i1 : (N : Int) < ((N + 1 : Nat) : Int) := by omega
  have HLN := Lib.hid hlN
  clear hS hc0 hlN
  go_wp2_with fail
  refine CI.out.mono ?_
  rintro e w4 ⟨u4, rfl, o4, b4⟩
  obtain ⟨g, cg, rfl, hg1, hg2⟩ := o4.shape (by have := HLN.out; omega)
  have HB4 := Lib.hid (HB3.out.trans (b4.mono HB3.out.size))
  have Q4 := Lib.hid (Q3.out.below b4 Q3.out.lt)
  have T4 := Lib.hid (T3.out.next b4)
  have O4 := Lib.hid o4.tight
  have gW : w.heap.size ≤ g ∧ w.heap.size ≠ g ∧ w1.heap.size ≠ g := by
    have := HB3.out.size
    have := Q3.out.lt
    have := T3.out.lt
    omega
  obtain ⟨ml, hml⟩ : ∃ m, m = (f N).length := ⟨_, rfl⟩
  have ml1 : ml ≤ N + 1 := by have := HLN.out; omega
  have ml2 : N + 1 ≤ ml := by have := HLN.out; omega
  rw [← hml] at O4 ⊢
  clear hml o4 b4 CI hcr HLN HB3 Q3 T3 hg1 hg2 i0 i1
  go_wp2_with fail
  go_loopg [13] N (fun gg t wr => ∃ (j : Nat) (Wl : List Int), j ≤ N ∧ N - j ≤ gg ∧ t = .int .i64 ((N : Int) - 1 - (j : Int)) ∧ Hid (EaSt U D f N j 0 Wl) ∧ Hid (OwnV wr g (g + 1) (.slice (some ⟨g, 0, none⟩) ml cg) Wl) ∧ Hid (QBox wr w.heap.size 0 0) ∧ Hid (RwB wr w1.heap.size N U D) ∧ Hid (Below w.heap.size w wr))
  case atStart => exact ⟨0, f N, Nat.zero_le _, by omega, congrArg (Value.int .i64) (by omega), ST, O4, Q4, T4, HB4⟩
  case round =>
    obtain ⟨j, Wl, hj, hgg, rfl, HS, HO, HQ, HR, HB⟩ := hrel
    clear ST O4 Q4 T4 HB4
    by_cases hlt : j < N
    · obtain ⟨tn, htn⟩ : ∃ tn : Nat, (N : Int) - 1 - (j : Int) = (tn : Int) := ⟨N - 1 - j, by omega⟩
      rw [htn]
      have ht1 : tn + 1 + j ≤ N := by omega
      have ht2 : N ≤ tn + 1 + j := by omega
      clear htn
      obtain ⟨bt, ot, zt, hpt, hBt, hct0, hzt⟩ := S.out tn (by omega)
      injection hpt with hpt
      injection hpt with hp1 hp2
      subst hp1; subst hp2
      have hct : ∀ w', Below w.heap.size w w' → w'.cell? ⟨b, off + tn, none⟩ = some zt := fun w' hb => by rw [hb.cell (p := ⟨b, off + tn, none⟩) hBt]; exact hct0
      have hlt2 := (TB.out tn (by omega)).1
      obtain ⟨qt, ct, rfl, _, _, _, hzi⟩ := hzt
      obtain ⟨bq, oq, hqt, hbq, _⟩ := hzi.get (i := 0) (by omega)
      subst hqt
      have HZC := Lib.hid (fun (k : Nat) (hk : k < tn + 1) w' (hb : Below w.heap.size w w') => show w'.cell? ⟨bq, oq + k, none⟩ = some (.int .i64 ((f tn).getD k 0)) from by
        obtain ⟨b', off', hq', hb', hc'⟩ := hzi.get (i := k) (by omega)
        injection hq' with hq'
        injection hq' with h1 h2
        subst h1; subst h2
        rw [hb.cell (p := ⟨bq, oq + k, none⟩) hb', hc'])
      have c0 := hct wr HB.out
      have i0 : (0 : Int) ≤ (tn : Int) := by omega
      have i1 : (tn : Int) < ((N + 1 : Nat) : Int) := by omega
      obtain ⟨lt', hlt'⟩ : ∃ l, l = (f tn).length := ⟨_, rfl⟩
      have lt1 : lt' ≤ tn + 1 := by omega
      have lt2 : tn + 1 ≤ lt' := by omega
      rw [← hlt'] at c0
      have HLT := Lib.hid hlt'
      clear hlt' hlt2 hct hct0 hzi
      go_wp2_with fail
      go_loopg [48] (tn + 1) (fun gi t wi => ∃ (k : Nat) (Wk : List Int), k ≤ tn + 1 ∧ tn + 1 - k ≤ gi ∧ t = .int .i64 k ∧ Hid (EaSt U D f N j k Wk) ∧ Hid (OwnV wi g (g + 1) (.slice (some ⟨g, 0, none⟩) ml cg) Wk) ∧ Hid (QBox wi w.heap.size 0 0) ∧ Hid (RwB wi w1.heap.size N U D) ∧ Hid (Below w.heap.size w wi))
      case atStart => exact ⟨0, Wl, Nat.zero_le _, by omega, rfl, HS, HO, HQ, HR, HB⟩
      case round =>
        clear HS HO HQ HR HB c0
        obtain ⟨wo, rfl⟩ : ∃ wo : World, wo = wr := ⟨_, rfl⟩
        obtain ⟨k, Wk, hk, hgi, rfl, HS, HO, HQ, HR, HB⟩ := hrel
        by_cases hkl : k < tn + 1
        · have wl := HS.out.len
          have zb := ZB.out tn k (by omega) hkl
          have e0 := HS.out.rest k (Nat.le_refl _) (by omega)
          have e1 := HS.out.rest (k + 1) (by omega) (by omega)
          have s0 := SM.out j k (by omega) (by omega)
          have s1 := SM.out j (k + 1) (by omega) (by omega)
          have NXT := Lib.hid (ea_step HS.out (by omega) (show k ≤ N - (j + 1) by omega))
          have un := ea_unf (U : Int) (D : Int) f N j k
          rw [show N - (j + 1) = tn by omega, ea_cast] at un
          have SR := SM.out (j + 1) k (by omega) (by omega)
          have pw := PW.out (j + 1) (by omega)
          have pp := PP.out (j + 1)
          have zP := ea_cell (x := (f tn).getD k 0) (m := (((U + D) ^ (j + 1) : Nat) : Int)) (B := 104976) (by omega) (by omega)
          have mx := rv_mul s1 (d := (D : Int)) (by omega)
          have my := rv_mul s0 (d := (U : Int)) (by omega)
          have BT1 := Lib.hid (fun w => show Calls Try.prog 113 #[.agg #[.int .i64 (N : Int), .int .i64 (U : Int), .int .i64 (D : Int)], .int .i64 ((N : Int) - (tn : Int))] w (Gives (.int .i64 (((U + D) ^ (j + 1) : Nat) : Int)) w) from by
            rw [show (N : Int) - (tn : Int) = ((j + 1 : Nat) : Int) by omega]
            exact BT.out (j + 1) (by omega) w)
          have BH1 := Lib.hid (fun w => BH.out (eaF U D f N j (k + 1)) (eaF U D f N j k) w (by omega) (by omega))
          have c0 := HO.out.cellGet (j := k) (by omega)
          have c1 := HO.out.cellGet (j := k + 1) (by omega)
          have fz := HO.out.frozenGet k
          rw [e0] at c0
          rw [e1] at c1
          have gl := HO.out.room
          have hczt := HZC.out k hkl wo HB.out
          have j0 : (0 : Int) ≤ (k : Int) := by omega
          have j1 : (k : Int) < (lt' : Int) := by omega
          have j2 : (k : Int) < (ml : Int) := by omega
          have j3 : (k : Int) + 1 < (ml : Int) := by omega
          have j4 : (0 : Int) ≤ (k : Int) + 1 := by omega
          have j5 : ((k : Int) + 1).toNat = k + 1 := by omega
          have W0 : IntKind.i64.wrap ((k : Int) + 1) = (k : Int) + 1 := IntWalk.i64_in _ (by omega)
          have W1 : IntKind.i64.wrap ((N : Int) - (tn : Int)) = (N : Int) - (tn : Int) := IntWalk.i64_in _ (by omega)
          have W2 : IntKind.i64.wrap ((f tn).getD k 0 * (((U + D) ^ (j + 1) : Nat) : Int)) = (f tn).getD k 0 * (((U + D) ^ (j + 1) : Nat) : Int) := IntWalk.i64_in _ (by omega)
          have VAL := Lib.hid un
          generalize (f tn).getD k 0 = zn at *
          generalize (((U + D) ^ (j + 1) : Nat) : Int) = PB at *
          generalize eaF U D f N j (k + 1) = e1v at *
          generalize eaF U D f N j k = e0v at *
          generalize eaF U D f N (j + 1) k = nv at *
          clear e0 e1 s0 s1 pw pp zP mx my zb un
          obtain ⟨x0, x1, x2⟩ := HR.out.cells
          have KC : Hid (∀ w', Below wo.heap.size wo w' → (w'.cell? ⟨w1.heap.size, 0, none⟩ = some (.int .i64 (N : Int)) ∧ w'.cell? ⟨w1.heap.size, 1, none⟩ = some (.int .i64 (U : Int)) ∧ w'.cell? ⟨w1.heap.size, 2, none⟩ = some (.int .i64 (D : Int))) ∧ (w'.cell? ⟨g, k, none⟩ = some (.int .i64 e0v) ∧ w'.cell? ⟨g, k + 1, none⟩ = some (.int .i64 e1v)) ∧ w'.frozen? ⟨g, k, none⟩ = false) := Lib.hid (fun w' hb => ⟨(HR.out.next hb).cells, ⟨(hb.cell (p := ⟨g, k, none⟩) (by show g < _; omega)).trans c0, (hb.cell (p := ⟨g, k + 1, none⟩) (by show g < _; omega)).trans c1⟩, (hb.frozen (p := ⟨g, k, none⟩) (by show g < _; omega)).trans fz⟩)
          have HD := Lib.hid (below_drew (Below.refl wo.heap.size wo))
          have gr1 := gW.1
          have gr2 := gW.2.1
          have gr3 := gW.2.2
          have FIN := Lib.hid (fun w' (hb : Below wo.heap.size wo w') => show EaSt U D f N j (k + 1) (Wk.set k nv) ∧ OwnV (w'.setCell ⟨g, k, none⟩ (.int .i64 (max (zn * PB) (e1v * (D : Int) + e0v * (U : Int))))) g (g + 1) (.slice (some ⟨g, 0, none⟩) ml cg) (Wk.set k nv) ∧ QBox (w'.setCell ⟨g, k, none⟩ (.int .i64 (max (zn * PB) (e1v * (D : Int) + e0v * (U : Int))))) w.heap.size 0 0 ∧ RwB (w'.setCell ⟨g, k, none⟩ (.int .i64 (max (zn * PB) (e1v * (D : Int) + e0v * (U : Int))))) w1.heap.size N U D ∧ Below w.heap.size w (w'.setCell ⟨g, k, none⟩ (.int .i64 (max (zn * PB) (e1v * (D : Int) + e0v * (U : Int))))) from by
            rw [← VAL.out]
            exact ⟨NXT.out, (HO.out.below (hb.mono gl)).setAt k (by unfold InI64; omega), (HQ.out.below hb HQ.out.lt).far gr2, (heap_setCell_other _ _ _ _ gr3).trans (HR.out.next hb), (HB.out.trans (hb.mono HB.out.size)).setCell (p := ⟨g, k, none⟩) gr1 _⟩)
          go_upto_region 11 with fail
          clear c0 c1 fz x0 x1 x2 hczt
          refine wp_region_held_drew (S := fun w' => w'.cell? ⟨w1.heap.size, 0, none⟩ = some (.int .i64 (N : Int)) ∧ w'.cell? ⟨w1.heap.size, 1, none⟩ = some (.int .i64 (U : Int)) ∧ w'.cell? ⟨w1.heap.size, 2, none⟩ = some (.int .i64 (D : Int)) ∧ w'.cell? ⟨g, k + 1, none⟩ = some (.int .i64 e1v)) (by kernel_rfl) ⟨(KC.out _ HD.out).1.1, (KC.out _ HD.out).1.2.1, (KC.out _ HD.out).1.2.2, (KC.out _ HD.out).2.1.2⟩ (fun hHeld => ?_)
          refine wpAnyH_take (i := 0) (oi := { dst := some 53, op := Op.move (Operand.tmp 12), type := 30, pos := "l6_hedging.go:402", after := #[], guard := none }) (v := ?_) rfl (by kernel_rfl) (by kernel_rfl) (by kernel_rfl) (fun _ _ _ h => h) (Or.inl ⟨by rfl, ?_⟩) (by assumption) ?_
          rotate_left 1
          · intro wq hSw; (try dsimp only at hSw); first | (go_simp; done) | (go_simp; with_reducible rfl)
          (try simp only [Act.put, List.setIfInBounds_toArray, List.set_cons_zero, List.set_cons_succ])
          refine wpAnyH_take (i := 1) (oi := { dst := some 54, op := Op.move (Operand.tmp 14), type := 3, pos := "l6_hedging.go:402", after := #[], guard := none }) (v := ?_) rfl (by kernel_rfl) (by kernel_rfl) (by kernel_rfl) (fun _ _ _ h => h) (Or.inl ⟨by rfl, ?_⟩) (by assumption) ?_
          rotate_left 1
          · intro wq hSw; (try dsimp only at hSw); first | (go_simp; done) | (go_simp; with_reducible rfl)
          (try simp only [Act.put, List.setIfInBounds_toArray, List.set_cons_zero, List.set_cons_succ])
          refine wpAnyH_take (i := 2) (oi := { dst := some 55, op := Op.move (Operand.tmp 15), type := 3, pos := "l6_hedging.go:402", after := #[], guard := none }) (v := ?_) rfl (by kernel_rfl) (by kernel_rfl) (by kernel_rfl) (fun _ _ _ h => h) (Or.inl ⟨by rfl, ?_⟩) (by assumption) ?_
          rotate_left 1
          · intro wq hSw; (try dsimp only at hSw); first | (go_simp; done) | (go_simp; with_reducible rfl)
          (try simp only [Act.put, List.setIfInBounds_toArray, List.set_cons_zero, List.set_cons_succ])
          refine wpAnyH_take (i := 3) (oi := { dst := some 56, op := Op.load 126 (Operand.tmp 10), type := 126, pos := "l6_hedging.go:402", after := #[], guard := none }) (v := ?_) rfl (by kernel_rfl) (by kernel_rfl) (by kernel_rfl) (fun _ _ _ h => h) (Or.inl ⟨by rfl, ?_⟩) (by assumption) ?_
          rotate_left 1
          · intro wq hSw; (try dsimp only at hSw); first | (go_simp; done) | (go_simp; with_reducible rfl)
          (try simp only [Act.put, List.setIfInBounds_toArray, List.set_cons_zero, List.set_cons_succ])
          refine wpAnyH_take (i := 4) (oi := { dst := some 57, op := Op.move (Operand.tmp 0), type := 3, pos := "l6_hedging.go:402", after := #[], guard := none }) (v := ?_) rfl (by kernel_rfl) (by kernel_rfl) (by kernel_rfl) (fun _ _ _ h => h) (Or.inl ⟨by rfl, ?_⟩) (by assumption) ?_
          rotate_left 1
          · intro wq hSw; (try dsimp only at hSw); first | (go_simp; done) | (go_simp; with_reducible rfl)
          (try simp only [Act.put, List.setIfInBounds_toArray, List.set_cons_zero, List.set_cons_succ])
          refine wpAnyH_take (i := 5) (oi := { dst := some 58, op := Op.move (Operand.tmp 13), type := 3, pos := "l6_hedging.go:402", after := #[], guard := none }) (v := ?_) rfl (by kernel_rfl) (by kernel_rfl) (by kernel_rfl) (fun _ _ _ h => h) (Or.inl ⟨by rfl, ?_⟩) (by assumption) ?_
          rotate_left 1
          · intro wq hSw; (try dsimp only at hSw); first | (go_simp; done) | (go_simp; with_reducible rfl)
          (try simp only [Act.put, List.setIfInBounds_toArray, List.set_cons_zero, List.set_cons_succ])
          refine wpAnyH_take (i := 6) (oi := { dst := some 59, op := Op.binOp BinOp.sub 3 (Operand.tmp 57) (Operand.tmp 58) 3, type := 3, pos := "l6_hedging.go:402", after := #[{ on := 4, ground := Ground.data }, { on := 5, ground := Ground.data }], guard := none }) (v := ?_) rfl (by kernel_rfl) (by kernel_rfl) (by kernel_rfl) (fun _ _ _ h => h) (Or.inl ⟨by rfl, ?_⟩) (by assumption) ?_
          rotate_left 1
          · intro wq hSw; (try dsimp only at hSw); first | (go_simp; done) | (go_simp; with_reducible rfl)
          (try simp only [Act.put, List.setIfInBounds_toArray, List.set_cons_zero, List.set_cons_succ])
          refine wpAnyH_take (i := 9) (oi := { dst := some 62, op := Op.load 126 (Operand.tmp 10), type := 126, pos := "l6_hedging.go:402", after := #[], guard := none }) (v := ?_) rfl (by kernel_rfl) (by kernel_rfl) (by kernel_rfl) (fun _ _ _ h => h) (Or.inl ⟨by rfl, ?_⟩) (by assumption) ?_
          rotate_left 1
          · intro wq hSw; (try dsimp only at hSw); first | (go_simp; done) | (go_simp; with_reducible rfl)
          (try simp only [Act.put, List.setIfInBounds_toArray, List.set_cons_zero, List.set_cons_succ])
          refine wpAnyH_take (i := 10) (oi := { dst := some 63, op := Op.move (Operand.tmp 12), type := 30, pos := "l6_hedging.go:402", after := #[], guard := none }) (v := ?_) rfl (by kernel_rfl) (by kernel_rfl) (by kernel_rfl) (fun _ _ _ h => h) (Or.inl ⟨by rfl, ?_⟩) (by assumption) ?_
          rotate_left 1
          · intro wq hSw; (try dsimp only at hSw); first | (go_simp; done) | (go_simp; with_reducible rfl)
          (try simp only [Act.put, List.setIfInBounds_toArray, List.set_cons_zero, List.set_cons_succ])
          refine wpAnyH_take (i := 11) (oi := { dst := some 64, op := Op.move (Operand.tmp 14), type := 3, pos := "l6_hedging.go:402", after := #[], guard := none }) (v := ?_) rfl (by kernel_rfl) (by kernel_rfl) (by kernel_rfl) (fun _ _ _ h => h) (Or.inl ⟨by rfl, ?_⟩) (by assumption) ?_
          rotate_left 1
          · intro wq hSw; (try dsimp only at hSw); first | (go_simp; done) | (go_simp; with_reducible rfl)
          (try simp only [Act.put, List.setIfInBounds_toArray, List.set_cons_zero, List.set_cons_succ])
          refine wpAnyH_take (i := 12) (oi := { dst := some 65, op := Op.binOp BinOp.add 3 (Operand.tmp 64) (Operand.const (Value.int IntKind.i64 1)) 3, type := 3, pos := "l6_hedging.go:402", after := #[{ on := 11, ground := Ground.data }], guard := none }) (v := ?_) rfl (by kernel_rfl) (by kernel_rfl) (by kernel_rfl) (fun _ _ _ h => h) (Or.inl ⟨by rfl, ?_⟩) (by assumption) ?_
          rotate_left 1
          · intro wq hSw; (try dsimp only at hSw); first | (go_simp; done) | (go_simp; with_reducible rfl)
          (try simp only [Act.put, List.setIfInBounds_toArray, List.set_cons_zero, List.set_cons_succ])
          refine wpAnyH_take (i := 13) (oi := { dst := some 66, op := Op.indexAddr 30 (Operand.tmp 63) (Operand.tmp 65), type := 0, pos := "l6_hedging.go:402", after := #[{ on := 10, ground := Ground.data }, { on := 12, ground := Ground.data }], guard := none }) (v := ?_) rfl (by kernel_rfl) (by kernel_rfl) (by kernel_rfl) (fun _ _ _ h => h) (Or.inl ⟨by rfl, ?_⟩) (by assumption) ?_
          rotate_left 1
          · intro wq hSw; (try dsimp only at hSw); first | (go_simp; done) | (go_simp; with_reducible rfl)
          (try simp only [Act.put, List.setIfInBounds_toArray, List.set_cons_zero, List.set_cons_succ])
          refine wpAnyH_take (i := 14) (oi := { dst := some 67, op := Op.load 3 (Operand.tmp 66), type := 3, pos := "l6_hedging.go:402", after := #[{ on := 13, ground := Ground.data }], guard := none }) (v := ?_) rfl (by kernel_rfl) (by kernel_rfl) (by kernel_rfl) (fun _ _ _ h => h) (Or.inl ⟨by rfl, ?_⟩) (by assumption) ?_
          rotate_left 1
          · intro wq hSw; (try dsimp only at hSw); first | (go_simp; done) | (go_simp; with_reducible rfl)
          (try simp only [Act.put, List.setIfInBounds_toArray, List.set_cons_zero, List.set_cons_succ])
          refine wpAnyH_take (i := 15) (oi := { dst := some 68, op := Op.move (Operand.tmp 12), type := 30, pos := "l6_hedging.go:402", after := #[], guard := none }) (v := ?_) rfl (by kernel_rfl) (by kernel_rfl) (by kernel_rfl) (fun _ _ _ h => h) (Or.inl ⟨by rfl, ?_⟩) (by assumption) ?_
          rotate_left 1
          · intro wq hSw; (try dsimp only at hSw); first | (go_simp; done) | (go_simp; with_reducible rfl)
          (try simp only [Act.put, List.setIfInBounds_toArray, List.set_cons_zero, List.set_cons_succ])
          refine wpAnyH_take (i := 16) (oi := { dst := some 69, op := Op.move (Operand.tmp 14), type := 3, pos := "l6_hedging.go:402", after := #[], guard := none }) (v := ?_) rfl (by kernel_rfl) (by kernel_rfl) (by kernel_rfl) (fun _ _ _ h => h) (Or.inl ⟨by rfl, ?_⟩) (by assumption) ?_
          rotate_left 1
          · intro wq hSw; (try dsimp only at hSw); first | (go_simp; done) | (go_simp; with_reducible rfl)
          (try simp only [Act.put, List.setIfInBounds_toArray, List.set_cons_zero, List.set_cons_succ])
          refine wpAnyH_take (i := 17) (oi := { dst := some 70, op := Op.indexAddr 30 (Operand.tmp 68) (Operand.tmp 69), type := 0, pos := "l6_hedging.go:402", after := #[{ on := 15, ground := Ground.data }, { on := 16, ground := Ground.data }], guard := none }) (v := ?_) rfl (by kernel_rfl) (by kernel_rfl) (by kernel_rfl) (fun _ _ _ h => h) (Or.inl ⟨by rfl, ?_⟩) (by assumption) ?_
          rotate_left 1
          · intro wq hSw; (try dsimp only at hSw); first | (go_simp; done) | (go_simp; with_reducible rfl)
          (try simp only [Act.put, List.setIfInBounds_toArray, List.set_cons_zero, List.set_cons_succ])
          refine wpAnyH_ready (rs := [7, 18]) (by kernel_rfl) (by simp) ?_
          refine AllReadyH.cons (o := { dst := some 60, op := Op.call { callee := Callee.value (Operand.func 113), args := #[Operand.tmp 56, Operand.tmp 59], argTypes := #[126, 3] }, type := 3, pos := "l6_hedging.go:402", after := #[{ on := 3, ground := Ground.data }, { on := 6, ground := Ground.data }], guard := none }) rfl (fun KQ hKQ => ?_) (AllReadyH.cons (o := { dst := some 71, op := Op.load 3 (Operand.tmp 70), type := 3, pos := "l6_hedging.go:402", after := #[{ on := 17, ground := Ground.data }], guard := none }) rfl (fun KQ hKQ => ?_) AllReadyH.nil)
          · go_simp
            refine (BT1.out _).mono ?_
            rintro e w5 ⟨rfl, b5⟩
            have HE5 : Below wo.heap.size wo w5 := HD.out.trans (b5.mono HD.out.size)
            clear b5
            go_wp2_with fail
            refine hKQ.out _ _ ⟨(KC.out _ HE5).1.1, (KC.out _ HE5).1.2.1, (KC.out _ HE5).1.2.2, (KC.out _ HE5).2.1.2⟩ (fun hHeld => ?_)
            (try simp only [Act.put, List.setIfInBounds_toArray, List.set_cons_zero, List.set_cons_succ])
            refine wpAnyH_take (i := 8) (oi := { dst := some 61, op := Op.binOp BinOp.mul 3 (Operand.tmp 55) (Operand.tmp 60) 3, type := 3, pos := "l6_hedging.go:402", after := #[{ on := 2, ground := Ground.data }, { on := 7, ground := Ground.data }], guard := none }) (v := ?_) rfl (by kernel_rfl) (by kernel_rfl) (by kernel_rfl) (fun _ _ _ h => h) (Or.inl ⟨by rfl, ?_⟩) (by assumption) ?_
            rotate_left 1
            · intro wq hSw; (try dsimp only at hSw); first | (go_simp; done) | (go_simp; with_reducible rfl)
            (try simp only [Act.put, List.setIfInBounds_toArray, List.set_cons_zero, List.set_cons_succ])
            refine wpAnyH_ready (rs := [18]) (by kernel_rfl) (by simp) ?_
            refine AllReadyH.cons (o := { dst := some 71, op := Op.load 3 (Operand.tmp 70), type := 3, pos := "l6_hedging.go:402", after := #[{ on := 17, ground := Ground.data }], guard := none }) rfl (fun KQ hKQ => ?_) AllReadyH.nil
            have hl18 := (KC.out _ HE5).2.1.1
            go_simp
            refine hKQ.out _ _ ⟨(KC.out _ HE5).1.1, (KC.out _ HE5).1.2.1, (KC.out _ HE5).1.2.2, (KC.out _ HE5).2.1.2⟩ (fun hHeld => ?_)
            clear hl18
            (try simp only [Act.put, List.setIfInBounds_toArray, List.set_cons_zero, List.set_cons_succ])
            refine wpAnyH_ready (rs := [19]) (by kernel_rfl) (by simp) ?_
            refine AllReadyH.cons (o := { dst := some 72, op := Op.call { callee := Callee.value (Operand.func 114), args := #[Operand.tmp 62, Operand.tmp 67, Operand.tmp 71], argTypes := #[126, 3, 3] }, type := 3, pos := "l6_hedging.go:402", after := #[{ on := 9, ground := Ground.data }, { on := 14, ground := Ground.data }, { on := 18, ground := Ground.data }, { on := 7, ground := Ground.chain }], guard := none }) rfl (fun KQ hKQ => ?_) AllReadyH.nil
            go_simp
            refine (BH1.out _).mono ?_
            rintro e w6 ⟨rfl, b6⟩
            have HE6 : Below wo.heap.size wo w6 := HE5.trans (b6.mono HE5.size)
            clear b6
            go_wp2_with fail
            refine hKQ.out _ _ ⟨(KC.out _ HE6).1.1, (KC.out _ HE6).1.2.1, (KC.out _ HE6).1.2.2, (KC.out _ HE6).2.1.2⟩ (fun hHeld => ?_)
            (try simp only [Act.put, List.setIfInBounds_toArray, List.set_cons_zero, List.set_cons_succ])
            refine wpAnyH_take (i := 20) (oi := { dst := some 73, op := Op.call { callee := Callee.builtin Builtin.max, args := #[Operand.tmp 61, Operand.tmp 72], argTypes := #[3, 3] }, type := 3, pos := "l6_hedging.go:402", after := #[{ on := 8, ground := Ground.data }, { on := 19, ground := Ground.data }], guard := none }) (v := ?_) rfl (by kernel_rfl) (by kernel_rfl) (by kernel_rfl) (fun _ _ _ h => h) (Or.inl ⟨by rfl, ?_⟩) (by assumption) ?_
            rotate_left 1
            · intro wq hSw; (try dsimp only at hSw); first | (go_simp; done) | (go_simp; with_reducible rfl)
            (try simp only [Act.put, List.setIfInBounds_toArray, List.set_cons_zero, List.set_cons_succ])
            refine wpAnyH_take (i := 21) (oi := { dst := some 74, op := Op.indexAddr 30 (Operand.tmp 53) (Operand.tmp 54), type := 0, pos := "l6_hedging.go:402", after := #[{ on := 0, ground := Ground.data }, { on := 1, ground := Ground.data }, { on := 0, ground := Ground.phase }, { on := 1, ground := Ground.phase }, { on := 2, ground := Ground.phase }, { on := 3, ground := Ground.phase }, { on := 4, ground := Ground.phase }, { on := 5, ground := Ground.phase }, { on := 6, ground := Ground.phase }, { on := 7, ground := Ground.phase }, { on := 8, ground := Ground.phase }, { on := 9, ground := Ground.phase }, { on := 10, ground := Ground.phase }, { on := 11, ground := Ground.phase }, { on := 12, ground := Ground.phase }, { on := 13, ground := Ground.phase }, { on := 14, ground := Ground.phase }, { on := 15, ground := Ground.phase }, { on := 16, ground := Ground.phase }, { on := 17, ground := Ground.phase }, { on := 18, ground := Ground.phase }, { on := 19, ground := Ground.phase }, { on := 20, ground := Ground.phase }], guard := none }) (v := ?_) rfl (by kernel_rfl) (by kernel_rfl) (by kernel_rfl) (fun _ _ _ h => h) (Or.inl ⟨by rfl, ?_⟩) (by assumption) ?_
            rotate_left 1
            · intro wq hSw; (try dsimp only at hSw); first | (go_simp; done) | (go_simp; with_reducible rfl)
            (try simp only [Act.put, List.setIfInBounds_toArray, List.set_cons_zero, List.set_cons_succ])
            have hl22 := (KC.out _ HE6).2.1.1
            have hf22 := (KC.out _ HE6).2.2
            refine wpAnyH_ready (rs := [22]) (by kernel_rfl) (by simp) ?_
            refine AllReadyH.cons (o := { dst := none, op := Op.store 3 (Operand.tmp 74) (Operand.tmp 73), type := 0, pos := "l6_hedging.go:402", after := #[{ on := 21, ground := Ground.data }, { on := 20, ground := Ground.data }, { on := 19, ground := Ground.chain }, { on := 0, ground := Ground.phase }, { on := 1, ground := Ground.phase }, { on := 2, ground := Ground.phase }, { on := 3, ground := Ground.phase }, { on := 4, ground := Ground.phase }, { on := 5, ground := Ground.phase }, { on := 6, ground := Ground.phase }, { on := 7, ground := Ground.phase }, { on := 8, ground := Ground.phase }, { on := 9, ground := Ground.phase }, { on := 10, ground := Ground.phase }, { on := 11, ground := Ground.phase }, { on := 12, ground := Ground.phase }, { on := 13, ground := Ground.phase }, { on := 14, ground := Ground.phase }, { on := 15, ground := Ground.phase }, { on := 16, ground := Ground.phase }, { on := 17, ground := Ground.phase }, { on := 18, ground := Ground.phase }, { on := 19, ground := Ground.phase }, { on := 20, ground := Ground.phase }], guard := none }) rfl (fun KQ hKQ => ?_) AllReadyH.nil
            go_simp
            refine hKQ.out _ _ ⟨(World.cell?_setCell_other _ _ _ _ (by simp)).trans (KC.out _ HE6).1.1, (World.cell?_setCell_other _ _ _ _ (by simp)).trans (KC.out _ HE6).1.2.1, (World.cell?_setCell_other _ _ _ _ (by simp)).trans (KC.out _ HE6).1.2.2, (World.cell?_setCell_other _ _ _ _ (by simp)).trans (KC.out _ HE6).2.1.2⟩ (fun hHeld => ?_)
            clear hl22 hf22
            (try simp only [Act.put, List.setIfInBounds_toArray, List.set_cons_zero, List.set_cons_succ])
            refine wpAnyH_done (by kernel_rfl) ?_ _
            obtain ⟨f1, f2, f3, f4, f5⟩ := FIN.out _ HE6
            have F1 := Lib.hid f1
            have F2 := Lib.hid f2
            have F3 := Lib.hid f3
            have F4 := Lib.hid f4
            have F5 := Lib.hid f5
            clear f1 f2 f3 f4 f5
            go_wp2_with fail
            go_roundg (tn + 1 - (k + 1))
            case rel => exact ⟨k + 1, Wk.set k nv, by omega, by omega, by go_num, F1, F2, F3, F4, F5⟩
            case measure => omega
          · have hl18 := (KC.out _ HD.out).2.1.1
            go_simp
            refine hKQ.out _ _ ⟨(KC.out _ HD.out).1.1, (KC.out _ HD.out).1.2.1, (KC.out _ HD.out).1.2.2, (KC.out _ HD.out).2.1.2⟩ (fun hHeld => ?_)
            clear hl18
            (try simp only [Act.put, List.setIfInBounds_toArray, List.set_cons_zero, List.set_cons_succ])
            refine wpAnyH_ready (rs := [7]) (by kernel_rfl) (by simp) ?_
            refine AllReadyH.cons (o := { dst := some 60, op := Op.call { callee := Callee.value (Operand.func 113), args := #[Operand.tmp 56, Operand.tmp 59], argTypes := #[126, 3] }, type := 3, pos := "l6_hedging.go:402", after := #[{ on := 3, ground := Ground.data }, { on := 6, ground := Ground.data }], guard := none }) rfl (fun KQ hKQ => ?_) AllReadyH.nil
            go_simp
            refine (BT1.out _).mono ?_
            rintro e w5 ⟨rfl, b5⟩
            have HE5 : Below wo.heap.size wo w5 := HD.out.trans (b5.mono HD.out.size)
            clear b5
            go_wp2_with fail
            refine hKQ.out _ _ ⟨(KC.out _ HE5).1.1, (KC.out _ HE5).1.2.1, (KC.out _ HE5).1.2.2, (KC.out _ HE5).2.1.2⟩ (fun hHeld => ?_)
            (try simp only [Act.put, List.setIfInBounds_toArray, List.set_cons_zero, List.set_cons_succ])
            refine wpAnyH_take (i := 8) (oi := { dst := some 61, op := Op.binOp BinOp.mul 3 (Operand.tmp 55) (Operand.tmp 60) 3, type := 3, pos := "l6_hedging.go:402", after := #[{ on := 2, ground := Ground.data }, { on := 7, ground := Ground.data }], guard := none }) (v := ?_) rfl (by kernel_rfl) (by kernel_rfl) (by kernel_rfl) (fun _ _ _ h => h) (Or.inl ⟨by rfl, ?_⟩) (by assumption) ?_
            rotate_left 1
            · intro wq hSw; (try dsimp only at hSw); first | (go_simp; done) | (go_simp; with_reducible rfl)
            (try simp only [Act.put, List.setIfInBounds_toArray, List.set_cons_zero, List.set_cons_succ])
            refine wpAnyH_ready (rs := [19]) (by kernel_rfl) (by simp) ?_
            refine AllReadyH.cons (o := { dst := some 72, op := Op.call { callee := Callee.value (Operand.func 114), args := #[Operand.tmp 62, Operand.tmp 67, Operand.tmp 71], argTypes := #[126, 3, 3] }, type := 3, pos := "l6_hedging.go:402", after := #[{ on := 9, ground := Ground.data }, { on := 14, ground := Ground.data }, { on := 18, ground := Ground.data }, { on := 7, ground := Ground.chain }], guard := none }) rfl (fun KQ hKQ => ?_) AllReadyH.nil
            go_simp
            refine (BH1.out _).mono ?_
            rintro e w6 ⟨rfl, b6⟩
            have HE6 : Below wo.heap.size wo w6 := HE5.trans (b6.mono HE5.size)
            clear b6
            go_wp2_with fail
            refine hKQ.out _ _ ⟨(KC.out _ HE6).1.1, (KC.out _ HE6).1.2.1, (KC.out _ HE6).1.2.2, (KC.out _ HE6).2.1.2⟩ (fun hHeld => ?_)
            (try simp only [Act.put, List.setIfInBounds_toArray, List.set_cons_zero, List.set_cons_succ])
            refine wpAnyH_take (i := 20) (oi := { dst := some 73, op := Op.call { callee := Callee.builtin Builtin.max, args := #[Operand.tmp 61, Operand.tmp 72], argTypes := #[3, 3] }, type := 3, pos := "l6_hedging.go:402", after := #[{ on := 8, ground := Ground.data }, { on := 19, ground := Ground.data }], guard := none }) (v := ?_) rfl (by kernel_rfl) (by kernel_rfl) (by kernel_rfl) (fun _ _ _ h => h) (Or.inl ⟨by rfl, ?_⟩) (by assumption) ?_
            rotate_left 1
            · intro wq hSw; (try dsimp only at hSw); first | (go_simp; done) | (go_simp; with_reducible rfl)
            (try simp only [Act.put, List.setIfInBounds_toArray, List.set_cons_zero, List.set_cons_succ])
            refine wpAnyH_take (i := 21) (oi := { dst := some 74, op := Op.indexAddr 30 (Operand.tmp 53) (Operand.tmp 54), type := 0, pos := "l6_hedging.go:402", after := #[{ on := 0, ground := Ground.data }, { on := 1, ground := Ground.data }, { on := 0, ground := Ground.phase }, { on := 1, ground := Ground.phase }, { on := 2, ground := Ground.phase }, { on := 3, ground := Ground.phase }, { on := 4, ground := Ground.phase }, { on := 5, ground := Ground.phase }, { on := 6, ground := Ground.phase }, { on := 7, ground := Ground.phase }, { on := 8, ground := Ground.phase }, { on := 9, ground := Ground.phase }, { on := 10, ground := Ground.phase }, { on := 11, ground := Ground.phase }, { on := 12, ground := Ground.phase }, { on := 13, ground := Ground.phase }, { on := 14, ground := Ground.phase }, { on := 15, ground := Ground.phase }, { on := 16, ground := Ground.phase }, { on := 17, ground := Ground.phase }, { on := 18, ground := Ground.phase }, { on := 19, ground := Ground.phase }, { on := 20, ground := Ground.phase }], guard := none }) (v := ?_) rfl (by kernel_rfl) (by kernel_rfl) (by kernel_rfl) (fun _ _ _ h => h) (Or.inl ⟨by rfl, ?_⟩) (by assumption) ?_
            rotate_left 1
            · intro wq hSw; (try dsimp only at hSw); first | (go_simp; done) | (go_simp; with_reducible rfl)
            (try simp only [Act.put, List.setIfInBounds_toArray, List.set_cons_zero, List.set_cons_succ])
            have hl22 := (KC.out _ HE6).2.1.1
            have hf22 := (KC.out _ HE6).2.2
            refine wpAnyH_ready (rs := [22]) (by kernel_rfl) (by simp) ?_
            refine AllReadyH.cons (o := { dst := none, op := Op.store 3 (Operand.tmp 74) (Operand.tmp 73), type := 0, pos := "l6_hedging.go:402", after := #[{ on := 21, ground := Ground.data }, { on := 20, ground := Ground.data }, { on := 19, ground := Ground.chain }, { on := 0, ground := Ground.phase }, { on := 1, ground := Ground.phase }, { on := 2, ground := Ground.phase }, { on := 3, ground := Ground.phase }, { on := 4, ground := Ground.phase }, { on := 5, ground := Ground.phase }, { on := 6, ground := Ground.phase }, { on := 7, ground := Ground.phase }, { on := 8, ground := Ground.phase }, { on := 9, ground := Ground.phase }, { on := 10, ground := Ground.phase }, { on := 11, ground := Ground.phase }, { on := 12, ground := Ground.phase }, { on := 13, ground := Ground.phase }, { on := 14, ground := Ground.phase }, { on := 15, ground := Ground.phase }, { on := 16, ground := Ground.phase }, { on := 17, ground := Ground.phase }, { on := 18, ground := Ground.phase }, { on := 19, ground := Ground.phase }, { on := 20, ground := Ground.phase }], guard := none }) rfl (fun KQ hKQ => ?_) AllReadyH.nil
            go_simp
            refine hKQ.out _ _ ⟨(World.cell?_setCell_other _ _ _ _ (by simp)).trans (KC.out _ HE6).1.1, (World.cell?_setCell_other _ _ _ _ (by simp)).trans (KC.out _ HE6).1.2.1, (World.cell?_setCell_other _ _ _ _ (by simp)).trans (KC.out _ HE6).1.2.2, (World.cell?_setCell_other _ _ _ _ (by simp)).trans (KC.out _ HE6).2.1.2⟩ (fun hHeld => ?_)
            clear hl22 hf22
            (try simp only [Act.put, List.setIfInBounds_toArray, List.set_cons_zero, List.set_cons_succ])
            refine wpAnyH_done (by kernel_rfl) ?_ _
            obtain ⟨f1, f2, f3, f4, f5⟩ := FIN.out _ HE6
            have F1 := Lib.hid f1
            have F2 := Lib.hid f2
            have F3 := Lib.hid f3
            have F4 := Lib.hid f4
            have F5 := Lib.hid f5
            clear f1 f2 f3 f4 f5
            go_wp2_with fail
            go_roundg (tn + 1 - (k + 1))
            case rel => exact ⟨k + 1, Wk.set k nv, by omega, by omega, by go_num, F1, F2, F3, F4, F5⟩
            case measure => omega
        · obtain rfl : k = tn + 1 := by omega
          have NX := Lib.hid (ea_next (show EaSt U D f N j (N - j) Wk by rw [show N - j = tn + 1 by omega]; exact HS.out) hlt)
          have i2 : ¬ ((tn + 1 : Nat) : Int) < (lt' : Int) := by omega
          go_wp2_with fail
          go_roundg (N - (j + 1))
          case rel => exact ⟨j + 1, Wk, by omega, by omega, congrArg (Value.int .i64) (by omega), NX, HO, HQ, HR, HB⟩
          case measure => omega
    · obtain rfl : j = N := by omega
      have i2 : ¬ ((j : Int) - 1 - (j : Int)) ≥ 0 := by omega
      have e0 := HS.out.rest 0 (Nat.le_refl _) (by omega)
      have wl := HS.out.len
      have c0 := HO.out.cellGet (j := 0) (by omega)
      rw [e0] at c0
      have gl := HO.out.room
      have BTN := Lib.hid (fun w => BT.out j (by omega) w)
      have gr2 := gW.2.1
      have gr3 := gW.2.2
      have gr4 : w1.heap.size ≠ w.heap.size := by omega
      have j1 : 0 < ml := by omega
      have j2 : (0 : Int) < (ml : Int) := by omega
      clear e0 BH SM ZB TB PW PP hUb hDb hU hD S BT wl HS
      generalize eaF (U : Int) (D : Int) f j j 0 = E at *
      generalize (((U + D) ^ j : Nat) : Int) = PB at *
      have KC : Hid (∀ w', Hid (Below wr.heap.size wr w') → w'.cell? ⟨w1.heap.size, 0, none⟩ = some (.int .i64 (j : Int)) ∧ w'.cell? ⟨w1.heap.size, 1, none⟩ = some (.int .i64 (U : Int)) ∧ w'.cell? ⟨w1.heap.size, 2, none⟩ = some (.int .i64 (D : Int)) ∧ w'.cell? ⟨g, 0, none⟩ = some (.int .i64 E)) := Lib.hid (fun w' hb => ⟨(HR.out.next hb.out).cells.1, (HR.out.next hb.out).cells.2.1, (HR.out.next hb.out).cells.2.2, (hb.out.cell (p := ⟨g, 0, none⟩) (by show g < _; omega)).trans c0⟩)
      have HD : Hid (Below wr.heap.size wr wr.drew) := Lib.hid (below_drew (Below.refl wr.heap.size wr))
      have FR : Hid (∀ w' (x y : Value), Hid (Below wr.heap.size wr w') → ((w'.setCell ⟨w.heap.size, 0, none⟩ x).setCell ⟨w.heap.size, 1, none⟩ y).cell? ⟨w1.heap.size, 0, none⟩ = some (.int .i64 (j : Int)) ∧ ((w'.setCell ⟨w.heap.size, 0, none⟩ x).setCell ⟨w.heap.size, 1, none⟩ y).cell? ⟨w1.heap.size, 1, none⟩ = some (.int .i64 (U : Int)) ∧ ((w'.setCell ⟨w.heap.size, 0, none⟩ x).setCell ⟨w.heap.size, 1, none⟩ y).cell? ⟨w1.heap.size, 2, none⟩ = some (.int .i64 (D : Int)) ∧ ((w'.setCell ⟨w.heap.size, 0, none⟩ x).setCell ⟨w.heap.size, 1, none⟩ y).cell? ⟨g, 0, none⟩ = some (.int .i64 E)) := Lib.hid (fun w' x y hb => ⟨(far_2 gr4).trans (KC.out _ hb).1, (far_2 gr4).trans (KC.out _ hb).2.1, (far_2 gr4).trans (KC.out _ hb).2.2.1, (far_2 (Ne.symm gr2)).trans (KC.out _ hb).2.2.2⟩)
      clear c0
      go_upto_region 13 with fail
      go_region_held3 (fun w' => w'.cell? ⟨w1.heap.size, 0, none⟩ = some (.int .i64 (j : Int)) ∧ w'.cell? ⟨w1.heap.size, 1, none⟩ = some (.int .i64 (U : Int)) ∧ w'.cell? ⟨w1.heap.size, 2, none⟩ = some (.int .i64 (D : Int)) ∧ w'.cell? ⟨g, 0, none⟩ = some (.int .i64 E))
        (first | with_reducible exact FR.out _ _ _ HE6 | with_reducible exact KC.out _ HE6 | with_reducible exact KC.out _ HE5 | with_reducible exact KC.out _ HD | go_keep)
        (first
          | (go_at_call 113; (with_reducible refine (BTN.out _).mono ?_); rintro e w5 ⟨rfl, b5⟩; (have HE5 : Hid (Below wr.heap.size wr w5) := Lib.hid (HD.out.trans (b5.mono HD.out.size))); clear b5)
          | (go_at_call 115; (with_reducible refine (RD.out _).mono ?_); rintro e w6 ⟨rfl, b6⟩; (have HE6 : Hid (Below wr.heap.size wr w6) := Lib.hid (HE5.out.trans (b6.mono HE5.out.size))); (obtain ⟨⟨r0, r1⟩, f0, f1⟩ := (HQ.out.below HE6.out HQ.out.lt).cells); clear b6))
      all_goals
        have HB7 := Lib.hid (HB.out.trans (HE6.out.mono HB.out.size))
        go_wp2_with fail
        refine bodyPost_ret (v := .tuple #[.agg #[.int .i64 kp, .int .i64 kq], .bool okk]) (by simp [results, Try.results60, go_sem, r0, r1]) rfl ⟨rfl, ?_⟩
        exact (HB7.out.setCell (p := ⟨w.heap.size, 0, none⟩) (Nat.le_refl _) _).setCell (p := ⟨w.heap.size, 1, none⟩) (Nat.le_refl _) _
end Go.Proofs.Ytmidlabgmmejbab
