/- RowEarly in the model. -/
import Derived.Test.YtmidlabgmmejbabEarI
import Derived.Test.YtmidlabgmmejbabRwM
import Derived.Test.YtmidlabgmmejbabSumS
import Derived.Maps.AppendAt
import Derived.Deep.AppendLies
namespace Go.Proofs.Ytmidlabgmmejbab
open Go.RowKit
set_option linter.unusedVariables false
def eaL (u d : Int) (f : Nat → List Int) (n j m : Nat) : List Int := (List.range m).map (eaF u d f n j)
theorem eaL_len (u d : Int) (f : Nat → List Int) (n j m : Nat) : (eaL u d f n j m).length = m := by simp [eaL]
theorem eaL_get {u d : Int} {f : Nat → List Int} {n j m i : Nat} (h : i < m) : (eaL u d f n j m).getD i 0 = eaF u d f n j i := by
  unfold eaL
  rw [List.getD_eq_getElem?_getD, List.getElem?_map, List.getElem?_range h]; rfl
theorem eaL_succ (u d : Int) (f : Nat → List Int) (n j m : Nat) : eaL u d f n j (m + 1) = eaL u d f n j m ++ [eaF u d f n j m] := by
  unfold eaL
  rw [List.range_succ, List.map_append]; rfl
set_option maxRecDepth 100000 in
set_option maxHeartbeats 16000000 in
theorem earS (n u d : Int) (R : Nat) (f : Nat → List Int) (v : Value) (w : World) (hf : ∀ i, i < R → (f i).length ≤ 1048576) (h : TabV w w.heap.size v R f) :
    Calls Try.prog 58 #[.int .i64 n, .int .i64 u, .int .i64 d, v] w (Gives (eaV n u d R f) w) := by
  have RC := Lib.hid (fun w => rowS n u d w)
  have EV := Lib.hid (show eaV n u d R f = if tabOk n u d R f = true then keptV (cutN (eaF u d f n.toNat n.toNat 0) (((u.toNat + d.toNat) ^ n.toNat : Nat) : Int)) (cutD (eaF u d f n.toNat n.toNat 0) (((u.toNat + d.toNat) ^ n.toNat : Nat) : Int)) else zeroP from rfl)
  have TO := Lib.hid (show tabOk n u d R f = (rowOk n u d && (decide ((R : Int) = n + 1) && tabB f R)) from rfl)
  have LE := Lib.hid hf
  obtain ⟨p, cap, rfl, _, hm, hS⟩ := h
  have S := Lib.hid hS
  unfold maxLen at hm
  clear hf hS
  obtain ⟨wa, hwa⟩ : ∃ wa, wa = w.alloc (.cells #[.int .i64 0, .int .i64 0] 57) := ⟨_, rfl⟩
  have B1 := Lib.hid (show Below w.heap.size w wa by rw [hwa]; exact (Below.refl _ _).alloc (Nat.le_refl _) _)
  have Q1 := Lib.hid (show QBox wa w.heap.size 0 0 by rw [hwa]; exact QBox.new _ _ _)
  cases hr : rowOk n u d
  · have E0 := Lib.hid (show eaV n u d R f = zeroP by rw [EV.out, TO.out, hr]; rfl)
    rw [hr] at RC
    rw [E0.out]
    unfold zeroP
    clear hr EV TO
    go_enter Try.func58, Try.ntmps58
    go_wp2_with fail
    rw [← hwa]
    clear hwa
    refine (RC.out _).mono ?_
    rintro e w1 ⟨rfl, rfl⟩
    obtain ⟨⟨r0, r1⟩, f0, f1⟩ := Q1.out.cells
    go_wp2_with fail
    refine bodyPost_ret (v := .tuple #[.agg #[.int .i64 0, .int .i64 0], .bool false]) (by simp [results, Try.results58, go_sem, r0, r1]) rfl ⟨rfl, ?_⟩
    exact (B1.out.setCell (p := ⟨w.heap.size, 0, none⟩) (Nat.le_refl _) _).setCell (p := ⟨w.heap.size, 1, none⟩) (Nat.le_refl _) _
  obtain ⟨N, U, D, rfl, rfl, rfl, hN, hU, hD⟩ := row_mk hr
  by_cases hR : (R : Int) = (N : Int) + 1
  rotate_left 1
  · have E0 := Lib.hid (show eaV N U D R f = zeroP by rw [EV.out, TO.out, hr, decide_eq_false hR]; rfl)
    have t1 : ((R : Int) != (N : Int) + 1) = true := by simpa using hR
    rw [hr] at RC
    rw [E0.out]
    unfold zeroP
    clear hr EV TO hR
    go_enter Try.func58, Try.ntmps58
    go_wp2_with fail
    rw [← hwa]
    clear hwa
    refine (RC.out _).mono ?_
    rintro e w1 ⟨rfl, rfl⟩
    obtain ⟨⟨r0, r1⟩, f0, f1⟩ := Q1.out.cells
    go_wp2_with fail
    refine bodyPost_ret (v := .tuple #[.agg #[.int .i64 0, .int .i64 0], .bool false]) (by simp [results, Try.results58, go_sem, r0, r1]) rfl ⟨rfl, ?_⟩
    exact (B1.out.setCell (p := ⟨w.heap.size, 0, none⟩) (Nat.le_refl _) _).setCell (p := ⟨w.heap.size, 1, none⟩) (Nat.le_refl _) _
  have t1 : ((R : Int) != (N : Int) + 1) = false := by simpa using hR
  have HR := Lib.hid (show R = N + 1 by omega)
  have RT0 : Hid (tabB f R = false → eaV N U D R f = .tuple #[.agg #[.int .i64 0, .int .i64 0], .bool false]) := Lib.hid (fun ht => by rw [EV.out, TO.out, ht, Bool.and_false, Bool.and_false]; rfl)
  have RT1 : Hid (tabB f R = true → eaV N U D R f = keptV (cutN (eaF U D f N N 0) (((U + D) ^ N : Nat) : Int)) (cutD (eaF U D f N N 0) (((U + D) ^ N : Nat) : Int))) := Lib.hid (fun ht => by rw [EV.out, TO.out, hr, ht, decide_eq_true hR]; simp)
  rw [hr] at RC
  have TZ := Lib.hid (tabB_zero f)
  have TN := Lib.hid (fun k (h : tabB f k = true) hk => tabB_next (f := f) (k := k) h hk)
  have TX := Lib.hid (fun k (h : k < R) hk => tabB_no (f := f) (k := k) (R := R) h hk)
  obtain ⟨ev, hev⟩ : ∃ e, e = eaV N U D R f := ⟨_, rfl⟩
  rw [← hev] at RT0 RT1 ⊢
  have hUb := hU
  have hDb := hD
  have ub0 : (1 : Int) ≤ (U : Int) := by omega
  have ub1 : (U : Int) ≤ 9 := by omega
  have db0 : (1 : Int) ≤ (D : Int) := by omega
  have db1 : (D : Int) ≤ 9 := by omega
  have HU := Lib.hid hU
  have HD' := Lib.hid hD
  clear hr EV TO hR hev
  go_enter Try.func58, Try.ntmps58
  go_wp2_with fail
  rw [← hwa]
  clear hwa
  refine (RC.out _).mono ?_
  rintro e w1 ⟨rfl, rfl⟩
  clear RC
  go_wp2_with fail
  go_loopg [10] R (fun gg t wr => ∃ k : Nat, k ≤ R ∧ R - k ≤ gg ∧ t = .int .i64 k ∧ Hid (tabB f k = true) ∧ Hid (QBox wr w.heap.size 0 0) ∧ Hid (Below w.heap.size w wr))
  case atStart => exact ⟨0, Nat.zero_le _, by omega, rfl, TZ, Q1, B1⟩
  case round =>
    obtain ⟨k, hk, hgg, rfl, HA, HQ, HB⟩ := hrel
    clear Q1 B1 t1
    by_cases hlt : k < R
    · obtain ⟨b, off, z, rfl, hB, hc0, hz⟩ := S.out k hlt
      have hcr : wr.cell? ⟨b, off + k, none⟩ = some z := by rw [HB.out.cell (p := ⟨b, off + k, none⟩) hB]; exact hc0
      have VI := Lib.hid (valsS (f k) ((k : Int) + 1) z wr (LE.out k hlt) ((hz.below HB.out).more HB.out.size))
      obtain ⟨qz, cz, rfl, _⟩ := hz
      have i0 : (0 : Int) ≤ (k : Int) := by omega
      have i1 : (k : Int) < (R : Int) := by omega
      have ik : (k : Int) ≤ (N : Int) := by have := HR.out; omega
      have NX := Lib.hid (TN.out k HA.out)
      have NO := Lib.hid (TX.out k hlt)
      generalize (decide (((f k).length : Int) = (k : Int) + 1) && withinB 999 (f k)) = t at *
      clear hc0 HA
      cases t
      · have N2 := Lib.hid (RT0.out (NO.out rfl))
        clear NX NO RT0 RT1
        go_wp2_with fail
        refine VI.out.mono ?_
        rintro e w1 ⟨rfl, b1⟩
        have HB1 := Lib.hid (HB.out.trans (b1.mono HB.out.size))
        obtain ⟨⟨r0, r1⟩, f0, f1⟩ := (HQ.out.below b1 HQ.out.lt).cells
        clear b1
        go_wp2_with fail
        refine bodyPost_ret (v := .tuple #[.agg #[.int .i64 0, .int .i64 0], .bool false]) (by simp [results, Try.results58, go_sem, r0, r1]) rfl ⟨by rw [N2.out], ?_⟩
        exact (HB1.out.setCell (p := ⟨w.heap.size, 0, none⟩) (Nat.le_refl _) _).setCell (p := ⟨w.heap.size, 1, none⟩) (Nat.le_refl _) _
      · have N2 := Lib.hid (NX.out rfl)
        clear NX NO RT0 RT1
        go_wp2_with fail
        refine VI.out.mono ?_
        rintro e w1 ⟨rfl, b1⟩
        have HB1 := Lib.hid (HB.out.trans (b1.mono HB.out.size))
        have HQ1 := Lib.hid (HQ.out.below b1 HQ.out.lt)
        clear b1
        go_wp2_with fail
        go_roundg (R - (k + 1))
        case rel => exact ⟨k + 1, by omega, by omega, by go_num, N2, HQ1, HB1⟩
        case measure => omega
    · have hkR : k = R := by omega
      have htR : tabB f R = true := hkR ▸ HA.out
      have htb : tabB f (N + 1) = true := HR.out ▸ htR
      have RT := Lib.hid (RT1.out htR)
      have ik : ¬ (k : Int) ≤ (N : Int) := by have := HR.out; omega
      have TB := Lib.hid (fun t (h : t < N + 1) => tabB_at htb h)
      have ZB := Lib.hid (fun t k (h : t < N + 1) (hk : k < t + 1) => within_at (tabB_at htb h).2 (i := k) (by rw [(tabB_at htb h).1]; exact hk))
      have SM := Lib.hid (fun (j k : Nat) (hj : j ≤ N) (hk : k ≤ N - j) => ea_small (u := (U : Int)) (d := (D : Int)) (f := f) (n := N) (by omega) (by omega) hN htb hj hk)
      have PO := Lib.hid (fun k (hk : k ≤ 4) w => (pow6S (U + D) k w (by omega) hk).mono fun _ _ h => (⟨h.1, h.2.symm⟩ : _ ∧ _))
      have MO := Lib.hid (fun a b w => (mostS a b w).mono fun _ _ h => (⟨h.1, h.2.symm⟩ : _ ∧ _))
      have PW := Lib.hid (fun k (hk : k ≤ 4) => pow18 (b := U + D) (k := k) (by omega) hk)
      have PP := Lib.hid (fun k => pow_pos1 (b := U + D) k (by omega))
      clear HA RT0 RT1 TZ TN TX htR htb
      obtain ⟨b, off, z, hp, hB, hc0, hz⟩ := S.out N (by have := HR.out; omega)
      subst hp
      have hcr : wr.cell? ⟨b, off + N, none⟩ = some z := by rw [HB.out.cell (p := ⟨b, off + N, none⟩) hB]; exact hc0
      have hlN := (TB.out N (by omega)).1
      have OW := Lib.hid (ownS (f N) z wr (by omega) (by omega) ((hz.below HB.out).more HB.out.size))
      obtain ⟨qz, cz, rfl, _⟩ := hz
      have i0 : (0 : Int) ≤ (N : Int) := by omega
      have i1 : (N : Int) < (R : Int) := by have := HR.out; omega
      have HLN := Lib.hid hlN
      clear hc0 hlN hlt hkR
      go_wp2_with fail
      refine OW.out.mono ?_
      rintro e w4 ⟨u4, rfl, o4, b4⟩
      obtain ⟨g, cg, rfl, hg1, hg2⟩ := o4.shape (by have := HLN.out; omega)
      have HB4 := Lib.hid (HB.out.trans (b4.mono HB.out.size))
      have Q4 := Lib.hid (HQ.out.below b4 HQ.out.lt)
      have C4 : Hid (g < w4.heap.size ∧ w.heap.size < g ∧ ∀ i, i ≤ N - 0 → w4.cell? ⟨g, i, none⟩ = some (.int .i64 (eaF U D f N 0 i))) := Lib.hid ⟨hg2, Nat.lt_of_lt_of_le HQ.out.lt hg1, fun i hi => o4.cellGet (j := i) (by have := HLN.out; omega)⟩
      obtain ⟨ml, hml⟩ : ∃ m, m = (f N).length := ⟨_, rfl⟩
      have ml1 := Lib.hid (show ml = N - 0 + 1 by have := HLN.out; omega)
      rw [← hml]
      clear hml o4 b4 OW hcr HLN HB HQ hg1 hg2 i1
      go_wp2_with fail
      go_loopg [11, 12] N (fun gg nw t wr => ∃ (j g ln cg : Nat), j ≤ N ∧ N - j ≤ gg ∧ nw = .slice (some ⟨g, 0, none⟩) ln cg ∧ t = .int .i64 ((N : Int) - 1 - (j : Int)) ∧ Hid (ln = N - j + 1) ∧ Hid (g < wr.heap.size ∧ w.heap.size < g ∧ ∀ i, i ≤ N - j → wr.cell? ⟨g, i, none⟩ = some (.int .i64 (eaF U D f N j i))) ∧ Hid (QBox wr w.heap.size 0 0) ∧ Hid (Below w.heap.size w wr))
      case atStart => exact ⟨0, g, ml, cg, Nat.zero_le _, by omega, rfl, congrArg (Value.int .i64) (by omega), ml1, C4, Q4, HB4⟩
      case round =>
        clear ml1 C4 Q4 HB4
        obtain ⟨j, g, ln, cg, hj, hgg, rfl, rfl, hln, HC, HQ, HB⟩ := hrel
        obtain ⟨wo, rfl⟩ : ∃ wo : World, wo = wr := ⟨_, rfl⟩
        by_cases hlt : j < N
        · obtain ⟨tn, htn⟩ : ∃ tn : Nat, (N : Int) - 1 - (j : Int) = (tn : Int) := ⟨N - 1 - j, by omega⟩
          rw [htn]
          have ht1 : tn + 1 + j ≤ N := by omega
          have ht2 : N ≤ tn + 1 + j := by omega
          clear htn
          obtain ⟨bt, ot, zt, hpt, hBt, hct0, hzt⟩ := S.out tn (by have := HR.out; omega)
          injection hpt with hpt
          injection hpt with hp1 hp2
          subst hp1; subst hp2
          have hlt2 := (TB.out tn (by omega)).1
          obtain ⟨qt, ct, rfl, _, _, _, hzi⟩ := hzt
          obtain ⟨bq, oq, hqt, hbq, _⟩ := hzi.get (i := 0) (by omega)
          subst hqt
          have HTC := Lib.hid (fun w' (hb : Below w.heap.size w w') => show w'.cell? ⟨b, off + tn, none⟩ = some (.slice (some ⟨bq, oq, none⟩) (f tn).length ct) from by rw [hb.cell (p := ⟨b, off + tn, none⟩) hBt]; exact hct0)
          have HZC := Lib.hid (fun (k : Nat) (hk : k < tn + 1) w' (hb : Below w.heap.size w w') => show w'.cell? ⟨bq, oq + k, none⟩ = some (.int .i64 ((f tn).getD k 0)) from by
            obtain ⟨b', off', hq', hb', hc'⟩ := hzi.get (i := k) (by omega)
            injection hq' with hq'
            injection hq' with h1 h2
            subst h1; subst h2
            rw [hb.cell (p := ⟨bq, oq + k, none⟩) hb', hc'])
          obtain ⟨lt', hlt'⟩ : ∃ l, l = (f tn).length := ⟨_, rfl⟩
          rw [← hlt'] at HTC
          have lt1 : tn + 1 ≤ lt' := by omega
          have ln1 : tn + 2 ≤ ln := by have := hln.out; omega
          have tr : (tn : Int) < (R : Int) := by have := HR.out; omega
          have t0 : (0 : Int) ≤ (tn : Int) := by omega
          have PJ := Lib.hid (fun w => PO.out (j + 1) (by omega) w)
          rw [show (((j + 1 : Nat)) : Int) = (N : Int) - (tn : Int) by omega] at PJ
          rw [Int.natCast_add U D] at PJ
          have EU := Lib.hid (fun k => ea_unf (U : Int) (D : Int) f N j k)
          have EC := Lib.hid (ea_cast U D (j + 1))
          have TT : N - (j + 1) = tn := by omega
          rw [TT, EC.out] at EU
          have P1 := PW.out (j + 1) (by omega)
          have P2 := PP.out (j + 1)
          obtain ⟨pv, hpv⟩ : ∃ p : Int, p = (((U + D) ^ (j + 1) : Nat) : Int) := ⟨_, rfl⟩
          have pv1 : 0 ≤ pv ∧ pv ≤ 104976 := by omega
          rw [← hpv] at PJ EU
          have SMJ := Lib.hid (fun k (hk : k ≤ tn + 1) => SM.out j k hj (by omega))
          have SMK := Lib.hid (fun k (hk : k ≤ tn) => SM.out (j + 1) k hlt (by omega))
          have ZBT := Lib.hid (fun k (hk : k < tn + 1) => ZB.out tn k (by omega) hk)
          have HG := HC.out.1
          have HNC := Lib.hid (fun i (hi : i ≤ tn + 1) w' (hb : Below wo.heap.size wo w') => show w'.cell? ⟨g, i, none⟩ = some (.int .i64 (eaF U D f N j i)) from (hb.cell (p := ⟨g, i, none⟩) HG).trans (HC.out.2.2 i (by omega)))
          have O0 := Lib.hid (OwnV.empty wo wo.heap.size (Nat.le_refl _))
          have D0 := Lib.hid ((Below.refl wo.heap.size wo).alloc (Nat.le_refl _) (.cells #[] 3))
          obtain ⟨ii, hi, hz0, hz1, hz2⟩ := info_parts intInfo
          clear hct0 hzi hBt hbq hlt' hlt2 hpv P1 P2 EC HC HG TB ZB
          go_wp2_with fail
          go_loopg [13, 14] (tn + 1) (fun gi o t wi => ∃ kk : Nat, kk ≤ tn + 1 ∧ tn + 1 - kk ≤ gi ∧ t = .int .i64 kk ∧ Hid (OwnV wi wo.heap.size wi.heap.size o (eaL U D f N (j + 1) kk)) ∧ Hid (Below wo.heap.size wo wi))
          case atStart => exact ⟨0, Nat.zero_le _, by omega, rfl, O0, D0⟩
          case round =>
            clear O0 D0
            obtain ⟨kk, hkk, hgi, rfl, HO, HW⟩ := hrel
            obtain ⟨wi, rfl⟩ : ∃ wi : World, wi = wr := ⟨_, rfl⟩
            by_cases hkl : kk < tn + 1
            · have HBW := HB.out.trans (HW.out.mono HB.out.size)
              have KK := Lib.hid (fun w9 (h9 : Below wo.heap.size wo w9) => show w9.cell? ⟨b, off + tn, none⟩ = some (.slice (some ⟨bq, oq, none⟩) lt' ct) ∧ w9.cell? ⟨bq, oq + kk, none⟩ = some (.int .i64 ((f tn).getD kk 0)) ∧ w9.cell? ⟨g, kk + 1, none⟩ = some (.int .i64 (eaF U D f N j (kk + 1))) ∧ w9.cell? ⟨g, kk, none⟩ = some (.int .i64 (eaF U D f N j kk)) from ⟨HTC.out w9 (HB.out.trans (h9.mono HB.out.size)), HZC.out kk hkl w9 (HB.out.trans (h9.mono HB.out.size)), HNC.out (kk + 1) (by omega) w9 h9, HNC.out kk (by omega) w9 h9⟩)
              have s1 := SMJ.out (kk + 1) (by omega)
              have s2 := SMJ.out kk (by omega)
              have s3 := SMK.out kk (by omega)
              have s4 := ZBT.out kk hkl
              have EQ := EU.out kk
              have AP := Lib.hid (eaL_succ U D f N (j + 1) kk)
              obtain ⟨xv, hxv⟩ : ∃ x, x = (f tn).getD kk 0 := ⟨_, rfl⟩
              obtain ⟨y1, hy1⟩ : ∃ x, x = eaF U D f N j (kk + 1) := ⟨_, rfl⟩
              obtain ⟨y2, hy2⟩ : ∃ x, x = eaF U D f N j kk := ⟨_, rfl⟩
              obtain ⟨nv, hnv⟩ : ∃ x, x = eaF U D f N (j + 1) kk := ⟨_, rfl⟩
              rw [← hxv] at KK s4 EQ
              rw [← hy1] at KK s1 EQ
              rw [← hy2] at KK s2 EQ
              rw [← hnv] at s3 EQ AP
              have m1 := ea_cell (x := xv) (m := pv) (B := 104976) (by omega) (by omega)
              have m2 := rv_mul s1 (show 1 ≤ (D : Int) ∧ (D : Int) ≤ 9 by omega)
              have m3 := rv_mul s2 (show 1 ≤ (U : Int) ∧ (U : Int) ≤ 9 by omega)
              rw [Int.mul_comm y1, Int.mul_comm y2] at EQ
              rw [Int.mul_comm] at m2 m3
              have W1 : IntKind.i64.wrap (xv * pv) = xv * pv := IntWalk.i64_in _ (by omega)
              have W2 : IntKind.i64.wrap ((D : Int) * y1) = (D : Int) * y1 := IntWalk.i64_in _ (by omega)
              have W3 : IntKind.i64.wrap ((U : Int) * y2) = (U : Int) * y2 := IntWalk.i64_in _ (by omega)
              have W4 : IntKind.i64.wrap ((D : Int) * y1 + (U : Int) * y2) = (D : Int) * y1 + (U : Int) * y2 := IntWalk.i64_in _ (by omega)
              have W5 : IntKind.i64.wrap ((U : Int) + (D : Int)) = (U : Int) + (D : Int) := IntWalk.i64_in _ (by omega)
              have W6 : IntKind.i64.wrap ((N : Int) - (tn : Int)) = (N : Int) - (tn : Int) := IntWalk.i64_in _ (by omega)
              have W7 : IntKind.i64.wrap ((kk : Int) + 1) = (kk : Int) + 1 := IntWalk.i64_in _ (by omega)
              have i2 : (0 : Int) ≤ (kk : Int) := by omega
              have i3 : (kk : Int) < (lt' : Int) := by omega
              have i4 : (kk : Int) + 1 < (ln : Int) := by omega
              have i7 : (0 : Int) ≤ (kk : Int) + 1 := by omega
              have i5 : (kk : Int) < (ln : Int) := by omega
              have i6 : (kk : Int) ≤ (tn : Int) := by omega
              have HI : Hid (InI64 nv) := Lib.hid (by unfold InI64; omega)
              have EQ2 := Lib.hid EQ
              have HD0 : Hid (Below wo.heap.size wo wi.drew) := Lib.hid (below_drew HW.out)
              have DA := Lib.hid (HD0.out.alloc HD0.out.size (.cells #[.int .i64 nv] 3))
              have HOd := Lib.hid (show OwnV wi.drew wo.heap.size wi.drew.heap.size u13 (eaL U D f N (j + 1) kk) from HO.out.below (below_drew (Below.refl _ wi)))
              obtain ⟨KL, hKL⟩ : ∃ K, K = eaL U D f N (j + 1) kk := ⟨_, rfl⟩
              have kl : KL.length = kk := by rw [hKL]; exact eaL_len ..
              have HKL := Lib.hid kl
              have kl1 : KL.length ≤ 4 := by omega
              rw [← hKL] at AP HOd
              have hsz : wo.heap.size ≤ wi.heap.size := HW.out.size
              have HOA := Lib.hid (HOd.out.row.alloc (.cells #[.int .i64 nv] 3))
              have HNA := Lib.hid (cell_one_new wi.drew (.int .i64 nv) 3)
              have MO1 := Lib.hid (MO.out (xv * pv) ((D : Int) * y1 + (U : Int) * y2) wi.drew)
              rw [← EQ2.out] at MO1
              clear hxv hy1 hy2 hnv s1 s2 s3 s4 m1 m2 m3 EQ hKL HO HW HBW kl SMJ SMK ZBT EU SM PO MO PW PP HTC HZC HNC
              go_upto_region 16 with fail
              refine wp_region_held_drew (S := fun w' => w'.cell? ⟨b, off + tn, none⟩ = some (.slice (some ⟨bq, oq, none⟩) lt' ct) ∧ w'.cell? ⟨bq, oq + kk, none⟩ = some (.int .i64 xv) ∧ w'.cell? ⟨g, kk + 1, none⟩ = some (.int .i64 y1) ∧ w'.cell? ⟨g, kk, none⟩ = some (.int .i64 y2)) (by kernel_rfl) (KK.out _ HD0.out) (fun hHeld => ?_)
              refine wpAnyH_take (i := 0) (oi := { dst := some 59, op := Op.move (Operand.tmp 13), type := 30, pos := "l6_hedging.go:342", after := #[], guard := none }) (v := ?_) rfl (by kernel_rfl) (by kernel_rfl) (by kernel_rfl) (fun _ _ _ h => h) (Or.inl ⟨by rfl, ?_⟩) (by assumption) ?_
              rotate_left 1
              · intro wq hSw; (try dsimp only at hSw); first | (go_simp; done) | (go_simp; with_reducible rfl)
              (try simp only [Act.put, List.setIfInBounds_toArray, List.set_cons_zero, List.set_cons_succ])
              refine wpAnyH_take (i := 1) (oi := { dst := some 60, op := Op.move (Operand.tmp 3), type := 67, pos := "l6_hedging.go:342", after := #[], guard := none }) (v := ?_) rfl (by kernel_rfl) (by kernel_rfl) (by kernel_rfl) (fun _ _ _ h => h) (Or.inl ⟨by rfl, ?_⟩) (by assumption) ?_
              rotate_left 1
              · intro wq hSw; (try dsimp only at hSw); first | (go_simp; done) | (go_simp; with_reducible rfl)
              (try simp only [Act.put, List.setIfInBounds_toArray, List.set_cons_zero, List.set_cons_succ])
              refine wpAnyH_take (i := 2) (oi := { dst := some 61, op := Op.move (Operand.tmp 12), type := 3, pos := "l6_hedging.go:342", after := #[], guard := none }) (v := ?_) rfl (by kernel_rfl) (by kernel_rfl) (by kernel_rfl) (fun _ _ _ h => h) (Or.inl ⟨by rfl, ?_⟩) (by assumption) ?_
              rotate_left 1
              · intro wq hSw; (try dsimp only at hSw); first | (go_simp; done) | (go_simp; with_reducible rfl)
              (try simp only [Act.put, List.setIfInBounds_toArray, List.set_cons_zero, List.set_cons_succ])
              refine wpAnyH_take (i := 3) (oi := { dst := some 62, op := Op.indexAddr 67 (Operand.tmp 60) (Operand.tmp 61), type := 0, pos := "l6_hedging.go:342", after := #[{ on := 1, ground := Ground.data }, { on := 2, ground := Ground.data }], guard := none }) (v := ?_) rfl (by kernel_rfl) (by kernel_rfl) (by kernel_rfl) (fun _ _ _ h => h) (Or.inl ⟨by rfl, ?_⟩) (by assumption) ?_
              rotate_left 1
              · intro wq hSw; (try dsimp only at hSw); first | (go_simp; done) | (go_simp; with_reducible rfl)
              (try simp only [Act.put, List.setIfInBounds_toArray, List.set_cons_zero, List.set_cons_succ])
              refine wpAnyH_take (i := 4) (oi := { dst := some 63, op := Op.load 30 (Operand.tmp 62), type := 30, pos := "l6_hedging.go:342", after := #[{ on := 3, ground := Ground.data }], guard := none }) (v := ?_) rfl (by kernel_rfl) (by kernel_rfl) (by kernel_rfl) (fun _ _ _ h => h) (Or.inl ⟨by rfl, ?_⟩) (by assumption) ?_
              rotate_left 1
              · intro wq hSw; (try dsimp only at hSw); first | (go_simp; done) | (go_simp; with_reducible rfl)
              (try simp only [Act.put, List.setIfInBounds_toArray, List.set_cons_zero, List.set_cons_succ])
              refine wpAnyH_take (i := 5) (oi := { dst := some 64, op := Op.move (Operand.tmp 14), type := 3, pos := "l6_hedging.go:342", after := #[], guard := none }) (v := ?_) rfl (by kernel_rfl) (by kernel_rfl) (by kernel_rfl) (fun _ _ _ h => h) (Or.inl ⟨by rfl, ?_⟩) (by assumption) ?_
              rotate_left 1
              · intro wq hSw; (try dsimp only at hSw); first | (go_simp; done) | (go_simp; with_reducible rfl)
              (try simp only [Act.put, List.setIfInBounds_toArray, List.set_cons_zero, List.set_cons_succ])
              refine wpAnyH_take (i := 6) (oi := { dst := some 65, op := Op.indexAddr 30 (Operand.tmp 63) (Operand.tmp 64), type := 0, pos := "l6_hedging.go:342", after := #[{ on := 4, ground := Ground.data }, { on := 5, ground := Ground.data }], guard := none }) (v := ?_) rfl (by kernel_rfl) (by kernel_rfl) (by kernel_rfl) (fun _ _ _ h => h) (Or.inl ⟨by rfl, ?_⟩) (by assumption) ?_
              rotate_left 1
              · intro wq hSw; (try dsimp only at hSw); first | (go_simp; done) | (go_simp; with_reducible rfl)
              (try simp only [Act.put, List.setIfInBounds_toArray, List.set_cons_zero, List.set_cons_succ])
              refine wpAnyH_take (i := 7) (oi := { dst := some 66, op := Op.load 3 (Operand.tmp 65), type := 3, pos := "l6_hedging.go:342", after := #[{ on := 6, ground := Ground.data }], guard := none }) (v := ?_) rfl (by kernel_rfl) (by kernel_rfl) (by kernel_rfl) (fun _ _ _ h => h) (Or.inl ⟨by rfl, ?_⟩) (by assumption) ?_
              rotate_left 1
              · intro wq hSw; (try dsimp only at hSw); first | (go_simp; done) | (go_simp; with_reducible rfl)
              (try simp only [Act.put, List.setIfInBounds_toArray, List.set_cons_zero, List.set_cons_succ])
              refine wpAnyH_take (i := 8) (oi := { dst := some 67, op := Op.move (Operand.tmp 1), type := 3, pos := "l6_hedging.go:342", after := #[], guard := none }) (v := ?_) rfl (by kernel_rfl) (by kernel_rfl) (by kernel_rfl) (fun _ _ _ h => h) (Or.inl ⟨by rfl, ?_⟩) (by assumption) ?_
              rotate_left 1
              · intro wq hSw; (try dsimp only at hSw); first | (go_simp; done) | (go_simp; with_reducible rfl)
              (try simp only [Act.put, List.setIfInBounds_toArray, List.set_cons_zero, List.set_cons_succ])
              refine wpAnyH_take (i := 9) (oi := { dst := some 68, op := Op.move (Operand.tmp 2), type := 3, pos := "l6_hedging.go:342", after := #[], guard := none }) (v := ?_) rfl (by kernel_rfl) (by kernel_rfl) (by kernel_rfl) (fun _ _ _ h => h) (Or.inl ⟨by rfl, ?_⟩) (by assumption) ?_
              rotate_left 1
              · intro wq hSw; (try dsimp only at hSw); first | (go_simp; done) | (go_simp; with_reducible rfl)
              (try simp only [Act.put, List.setIfInBounds_toArray, List.set_cons_zero, List.set_cons_succ])
              refine wpAnyH_take (i := 10) (oi := { dst := some 69, op := Op.binOp BinOp.add 3 (Operand.tmp 67) (Operand.tmp 68) 3, type := 3, pos := "l6_hedging.go:342", after := #[{ on := 8, ground := Ground.data }, { on := 9, ground := Ground.data }], guard := none }) (v := ?_) rfl (by kernel_rfl) (by kernel_rfl) (by kernel_rfl) (fun _ _ _ h => h) (Or.inl ⟨by rfl, ?_⟩) (by assumption) ?_
              rotate_left 1
              · intro wq hSw; (try dsimp only at hSw); first | (go_simp; done) | (go_simp; with_reducible rfl)
              (try simp only [Act.put, List.setIfInBounds_toArray, List.set_cons_zero, List.set_cons_succ])
              refine wpAnyH_take (i := 11) (oi := { dst := some 70, op := Op.move (Operand.tmp 0), type := 3, pos := "l6_hedging.go:342", after := #[], guard := none }) (v := ?_) rfl (by kernel_rfl) (by kernel_rfl) (by kernel_rfl) (fun _ _ _ h => h) (Or.inl ⟨by rfl, ?_⟩) (by assumption) ?_
              rotate_left 1
              · intro wq hSw; (try dsimp only at hSw); first | (go_simp; done) | (go_simp; with_reducible rfl)
              (try simp only [Act.put, List.setIfInBounds_toArray, List.set_cons_zero, List.set_cons_succ])
              refine wpAnyH_take (i := 12) (oi := { dst := some 71, op := Op.move (Operand.tmp 12), type := 3, pos := "l6_hedging.go:342", after := #[], guard := none }) (v := ?_) rfl (by kernel_rfl) (by kernel_rfl) (by kernel_rfl) (fun _ _ _ h => h) (Or.inl ⟨by rfl, ?_⟩) (by assumption) ?_
              rotate_left 1
              · intro wq hSw; (try dsimp only at hSw); first | (go_simp; done) | (go_simp; with_reducible rfl)
              (try simp only [Act.put, List.setIfInBounds_toArray, List.set_cons_zero, List.set_cons_succ])
              refine wpAnyH_take (i := 13) (oi := { dst := some 72, op := Op.binOp BinOp.sub 3 (Operand.tmp 70) (Operand.tmp 71) 3, type := 3, pos := "l6_hedging.go:342", after := #[{ on := 11, ground := Ground.data }, { on := 12, ground := Ground.data }], guard := none }) (v := ?_) rfl (by kernel_rfl) (by kernel_rfl) (by kernel_rfl) (fun _ _ _ h => h) (Or.inl ⟨by rfl, ?_⟩) (by assumption) ?_
              rotate_left 1
              · intro wq hSw; (try dsimp only at hSw); first | (go_simp; done) | (go_simp; with_reducible rfl)
              (try simp only [Act.put, List.setIfInBounds_toArray, List.set_cons_zero, List.set_cons_succ])
              refine wpAnyH_take (i := 16) (oi := { dst := some 75, op := Op.move (Operand.tmp 2), type := 3, pos := "l6_hedging.go:342", after := #[], guard := none }) (v := ?_) rfl (by kernel_rfl) (by kernel_rfl) (by kernel_rfl) (fun _ _ _ h => h) (Or.inl ⟨by rfl, ?_⟩) (by assumption) ?_
              rotate_left 1
              · intro wq hSw; (try dsimp only at hSw); first | (go_simp; done) | (go_simp; with_reducible rfl)
              (try simp only [Act.put, List.setIfInBounds_toArray, List.set_cons_zero, List.set_cons_succ])
              refine wpAnyH_take (i := 17) (oi := { dst := some 76, op := Op.move (Operand.tmp 11), type := 30, pos := "l6_hedging.go:342", after := #[], guard := none }) (v := ?_) rfl (by kernel_rfl) (by kernel_rfl) (by kernel_rfl) (fun _ _ _ h => h) (Or.inl ⟨by rfl, ?_⟩) (by assumption) ?_
              rotate_left 1
              · intro wq hSw; (try dsimp only at hSw); first | (go_simp; done) | (go_simp; with_reducible rfl)
              (try simp only [Act.put, List.setIfInBounds_toArray, List.set_cons_zero, List.set_cons_succ])
              refine wpAnyH_take (i := 18) (oi := { dst := some 77, op := Op.move (Operand.tmp 14), type := 3, pos := "l6_hedging.go:342", after := #[], guard := none }) (v := ?_) rfl (by kernel_rfl) (by kernel_rfl) (by kernel_rfl) (fun _ _ _ h => h) (Or.inl ⟨by rfl, ?_⟩) (by assumption) ?_
              rotate_left 1
              · intro wq hSw; (try dsimp only at hSw); first | (go_simp; done) | (go_simp; with_reducible rfl)
              (try simp only [Act.put, List.setIfInBounds_toArray, List.set_cons_zero, List.set_cons_succ])
              refine wpAnyH_take (i := 19) (oi := { dst := some 78, op := Op.binOp BinOp.add 3 (Operand.tmp 77) (Operand.const (Value.int IntKind.i64 1)) 3, type := 3, pos := "l6_hedging.go:342", after := #[{ on := 18, ground := Ground.data }], guard := none }) (v := ?_) rfl (by kernel_rfl) (by kernel_rfl) (by kernel_rfl) (fun _ _ _ h => h) (Or.inl ⟨by rfl, ?_⟩) (by assumption) ?_
              rotate_left 1
              · intro wq hSw; (try dsimp only at hSw); first | (go_simp; done) | (go_simp; with_reducible rfl)
              (try simp only [Act.put, List.setIfInBounds_toArray, List.set_cons_zero, List.set_cons_succ])
              refine wpAnyH_take (i := 20) (oi := { dst := some 79, op := Op.indexAddr 30 (Operand.tmp 76) (Operand.tmp 78), type := 0, pos := "l6_hedging.go:342", after := #[{ on := 17, ground := Ground.data }, { on := 19, ground := Ground.data }], guard := none }) (v := ?_) rfl (by kernel_rfl) (by kernel_rfl) (by kernel_rfl) (fun _ _ _ h => h) (Or.inl ⟨by rfl, ?_⟩) (by assumption) ?_
              rotate_left 1
              · intro wq hSw; (try dsimp only at hSw); first | (go_simp; done) | (go_simp; with_reducible rfl)
              (try simp only [Act.put, List.setIfInBounds_toArray, List.set_cons_zero, List.set_cons_succ])
              refine wpAnyH_take (i := 21) (oi := { dst := some 80, op := Op.load 3 (Operand.tmp 79), type := 3, pos := "l6_hedging.go:342", after := #[{ on := 20, ground := Ground.data }], guard := none }) (v := ?_) rfl (by kernel_rfl) (by kernel_rfl) (by kernel_rfl) (fun _ _ _ h => h) (Or.inl ⟨by rfl, ?_⟩) (by assumption) ?_
              rotate_left 1
              · intro wq hSw; (try dsimp only at hSw); first | (go_simp; done) | (go_simp; with_reducible rfl)
              (try simp only [Act.put, List.setIfInBounds_toArray, List.set_cons_zero, List.set_cons_succ])
              refine wpAnyH_take (i := 22) (oi := { dst := some 81, op := Op.binOp BinOp.mul 3 (Operand.tmp 75) (Operand.tmp 80) 3, type := 3, pos := "l6_hedging.go:342", after := #[{ on := 16, ground := Ground.data }, { on := 21, ground := Ground.data }], guard := none }) (v := ?_) rfl (by kernel_rfl) (by kernel_rfl) (by kernel_rfl) (fun _ _ _ h => h) (Or.inl ⟨by rfl, ?_⟩) (by assumption) ?_
              rotate_left 1
              · intro wq hSw; (try dsimp only at hSw); first | (go_simp; done) | (go_simp; with_reducible rfl)
              (try simp only [Act.put, List.setIfInBounds_toArray, List.set_cons_zero, List.set_cons_succ])
              refine wpAnyH_take (i := 23) (oi := { dst := some 82, op := Op.move (Operand.tmp 1), type := 3, pos := "l6_hedging.go:342", after := #[], guard := none }) (v := ?_) rfl (by kernel_rfl) (by kernel_rfl) (by kernel_rfl) (fun _ _ _ h => h) (Or.inl ⟨by rfl, ?_⟩) (by assumption) ?_
              rotate_left 1
              · intro wq hSw; (try dsimp only at hSw); first | (go_simp; done) | (go_simp; with_reducible rfl)
              (try simp only [Act.put, List.setIfInBounds_toArray, List.set_cons_zero, List.set_cons_succ])
              refine wpAnyH_take (i := 24) (oi := { dst := some 83, op := Op.move (Operand.tmp 11), type := 30, pos := "l6_hedging.go:342", after := #[], guard := none }) (v := ?_) rfl (by kernel_rfl) (by kernel_rfl) (by kernel_rfl) (fun _ _ _ h => h) (Or.inl ⟨by rfl, ?_⟩) (by assumption) ?_
              rotate_left 1
              · intro wq hSw; (try dsimp only at hSw); first | (go_simp; done) | (go_simp; with_reducible rfl)
              (try simp only [Act.put, List.setIfInBounds_toArray, List.set_cons_zero, List.set_cons_succ])
              refine wpAnyH_take (i := 25) (oi := { dst := some 84, op := Op.move (Operand.tmp 14), type := 3, pos := "l6_hedging.go:342", after := #[], guard := none }) (v := ?_) rfl (by kernel_rfl) (by kernel_rfl) (by kernel_rfl) (fun _ _ _ h => h) (Or.inl ⟨by rfl, ?_⟩) (by assumption) ?_
              rotate_left 1
              · intro wq hSw; (try dsimp only at hSw); first | (go_simp; done) | (go_simp; with_reducible rfl)
              (try simp only [Act.put, List.setIfInBounds_toArray, List.set_cons_zero, List.set_cons_succ])
              refine wpAnyH_take (i := 26) (oi := { dst := some 85, op := Op.indexAddr 30 (Operand.tmp 83) (Operand.tmp 84), type := 0, pos := "l6_hedging.go:342", after := #[{ on := 24, ground := Ground.data }, { on := 25, ground := Ground.data }], guard := none }) (v := ?_) rfl (by kernel_rfl) (by kernel_rfl) (by kernel_rfl) (fun _ _ _ h => h) (Or.inl ⟨by rfl, ?_⟩) (by assumption) ?_
              rotate_left 1
              · intro wq hSw; (try dsimp only at hSw); first | (go_simp; done) | (go_simp; with_reducible rfl)
              (try simp only [Act.put, List.setIfInBounds_toArray, List.set_cons_zero, List.set_cons_succ])
              refine wpAnyH_take (i := 27) (oi := { dst := some 86, op := Op.load 3 (Operand.tmp 85), type := 3, pos := "l6_hedging.go:342", after := #[{ on := 26, ground := Ground.data }], guard := none }) (v := ?_) rfl (by kernel_rfl) (by kernel_rfl) (by kernel_rfl) (fun _ _ _ h => h) (Or.inl ⟨by rfl, ?_⟩) (by assumption) ?_
              rotate_left 1
              · intro wq hSw; (try dsimp only at hSw); first | (go_simp; done) | (go_simp; with_reducible rfl)
              (try simp only [Act.put, List.setIfInBounds_toArray, List.set_cons_zero, List.set_cons_succ])
              refine wpAnyH_take (i := 28) (oi := { dst := some 87, op := Op.binOp BinOp.mul 3 (Operand.tmp 82) (Operand.tmp 86) 3, type := 3, pos := "l6_hedging.go:342", after := #[{ on := 23, ground := Ground.data }, { on := 27, ground := Ground.data }], guard := none }) (v := ?_) rfl (by kernel_rfl) (by kernel_rfl) (by kernel_rfl) (fun _ _ _ h => h) (Or.inl ⟨by rfl, ?_⟩) (by assumption) ?_
              rotate_left 1
              · intro wq hSw; (try dsimp only at hSw); first | (go_simp; done) | (go_simp; with_reducible rfl)
              (try simp only [Act.put, List.setIfInBounds_toArray, List.set_cons_zero, List.set_cons_succ])
              refine wpAnyH_take (i := 29) (oi := { dst := some 88, op := Op.binOp BinOp.add 3 (Operand.tmp 81) (Operand.tmp 87) 3, type := 3, pos := "l6_hedging.go:342", after := #[{ on := 22, ground := Ground.data }, { on := 28, ground := Ground.data }], guard := none }) (v := ?_) rfl (by kernel_rfl) (by kernel_rfl) (by kernel_rfl) (fun _ _ _ h => h) (Or.inl ⟨by rfl, ?_⟩) (by assumption) ?_
              rotate_left 1
              · intro wq hSw; (try dsimp only at hSw); first | (go_simp; done) | (go_simp; with_reducible rfl)
              (try simp only [Act.put, List.setIfInBounds_toArray, List.set_cons_zero, List.set_cons_succ])
              refine wpAnyH_ready (rs := [14]) (by kernel_rfl) (by simp) ?_
              refine AllReadyH.cons (o := { dst := some 73, op := Op.call { callee := Callee.value (Operand.func 107), args := #[Operand.tmp 69, Operand.tmp 72], argTypes := #[3, 3] }, type := 3, pos := "l6_hedging.go:342", after := #[{ on := 10, ground := Ground.data }, { on := 13, ground := Ground.data }], guard := none }) rfl (fun KQ hKQ => ?_) AllReadyH.nil
              go_simp
              refine (PJ.out _).mono ?_
              rintro e w5 ⟨rfl, rfl⟩
              go_wp2_with fail
              refine hKQ.out _ _ (KK.out _ HD0.out) (fun hHeld => ?_)
              (try simp only [Act.put, List.setIfInBounds_toArray, List.set_cons_zero, List.set_cons_succ])
              refine wpAnyH_take (i := 15) (oi := { dst := some 74, op := Op.binOp BinOp.mul 3 (Operand.tmp 66) (Operand.tmp 73) 3, type := 3, pos := "l6_hedging.go:342", after := #[{ on := 7, ground := Ground.data }, { on := 14, ground := Ground.data }], guard := none }) (v := ?_) rfl (by kernel_rfl) (by kernel_rfl) (by kernel_rfl) (fun _ _ _ h => h) (Or.inl ⟨by rfl, ?_⟩) (by assumption) ?_
              rotate_left 1
              · intro wq hSw; (try dsimp only at hSw); first | (go_simp; done) | (go_simp; with_reducible rfl)
              (try simp only [Act.put, List.setIfInBounds_toArray, List.set_cons_zero, List.set_cons_succ])
              refine wpAnyH_ready (rs := [30]) (by kernel_rfl) (by simp) ?_
              refine AllReadyH.cons (o := { dst := some 89, op := Op.call { callee := Callee.value (Operand.func 84), args := #[Operand.tmp 74, Operand.tmp 88], argTypes := #[3, 3] }, type := 3, pos := "l6_hedging.go:342", after := #[{ on := 15, ground := Ground.data }, { on := 29, ground := Ground.data }, { on := 14, ground := Ground.chain }], guard := none }) rfl (fun KQ hKQ => ?_) AllReadyH.nil
              go_simp
              refine (MO1.out).mono ?_
              rintro e w5 ⟨rfl, rfl⟩
              go_wp2_with fail
              refine hKQ.out _ _ (KK.out _ HD0.out) (fun hHeld => ?_)
              (try simp only [Act.put, List.setIfInBounds_toArray, List.set_cons_zero, List.set_cons_succ])
              refine wpAnyH_ready (rs := [31]) (by kernel_rfl) (by simp) ?_
              refine AllReadyH.cons (o := { dst := some 90, op := Op.buildSlice 30 1 #[(0, Operand.tmp 89)], type := 30, pos := "l6_hedging.go:342", after := #[{ on := 30, ground := Ground.data }], guard := none }) rfl (fun KQ hKQ => ?_) AllReadyH.nil
              go_simp
              refine hKQ.out _ _ (KK.out _ DA.out) (fun hHeld => ?_)
              (try simp only [Act.put, List.setIfInBounds_toArray, List.set_cons_zero, List.set_cons_succ])
              refine wpAnyH_ready (rs := [32]) (by kernel_rfl) (by simp) ?_
              refine AllReadyH.cons (o := { dst := some 91, op := Op.call { callee := Callee.builtin Builtin.append, args := #[Operand.tmp 59, Operand.tmp 90], argTypes := #[30, 30] }, type := 30, pos := "l6_hedging.go:342", after := #[{ on := 0, ground := Ground.data }, { on := 31, ground := Ground.data }, { on := 30, ground := Ground.chain }], guard := none }) rfl (fun KQ hKQ => ?_) AllReadyH.nil
              refine step_append_lies _ rfl _ _ 30 rfl wo.heap.size 3 ii (.int .i64 0) 1 8 Try.underlying30 hi hz0 hz1 hz2 rfl (by decide) u13 KL.length (KL.map (.int .i64)) rfl HOA.out ⟨wi.drew.heap.size, 0, none⟩ 1 1 [.int .i64 nv] rfl rfl HNA.out (fun u hu => by simp at hu; subst hu; rfl) (by omega) (by unfold maxLen; omega) (by omega) (by simp; omega) _ rfl ?_
              intro g4 cap4 w9 hown3 hgrow3 hat3 hlt3
              have bel3 := Lib.hid ((HD0.out.alloc HD0.out.size (.cells #[.int .i64 nv] 3)).grown hgrow3 (by simp; omega) (fun q hq => (HOA.out.lt q hq).1))
              have own3 := Lib.hid (HOd.out.app HI.out hown3)
              clear hown3 hgrow3 hat3 hlt3
              refine hKQ.out _ _ (KK.out _ bel3.out) (fun hHeld => ?_)
              (try simp only [Act.put, List.setIfInBounds_toArray, List.set_cons_zero, List.set_cons_succ])
              refine wpAnyH_take (i := 33) (oi := { dst := some 13, op := Op.assign (Operand.tmp 91), type := 30, pos := "l6_hedging.go:342", after := #[{ on := 32, ground := Ground.data }, { on := 32, ground := Ground.chain }, { on := 0, ground := Ground.phase }, { on := 1, ground := Ground.phase }, { on := 2, ground := Ground.phase }, { on := 3, ground := Ground.phase }, { on := 4, ground := Ground.phase }, { on := 5, ground := Ground.phase }, { on := 6, ground := Ground.phase }, { on := 7, ground := Ground.phase }, { on := 8, ground := Ground.phase }, { on := 9, ground := Ground.phase }, { on := 10, ground := Ground.phase }, { on := 11, ground := Ground.phase }, { on := 12, ground := Ground.phase }, { on := 13, ground := Ground.phase }, { on := 14, ground := Ground.phase }, { on := 15, ground := Ground.phase }, { on := 16, ground := Ground.phase }, { on := 17, ground := Ground.phase }, { on := 18, ground := Ground.phase }, { on := 19, ground := Ground.phase }, { on := 20, ground := Ground.phase }, { on := 21, ground := Ground.phase }, { on := 22, ground := Ground.phase }, { on := 23, ground := Ground.phase }, { on := 24, ground := Ground.phase }, { on := 25, ground := Ground.phase }, { on := 26, ground := Ground.phase }, { on := 27, ground := Ground.phase }, { on := 28, ground := Ground.phase }, { on := 29, ground := Ground.phase }, { on := 30, ground := Ground.phase }, { on := 31, ground := Ground.phase }, { on := 32, ground := Ground.phase }], guard := none }) (v := ?_) rfl (by kernel_rfl) (by kernel_rfl) (by kernel_rfl) (fun _ _ _ h => h) (Or.inl ⟨by rfl, ?_⟩) (by assumption) ?_
              rotate_left 1
              · intro wq hSw; (try dsimp only at hSw); first | (go_simp; done) | (go_simp; with_reducible rfl)
              (try simp only [Act.put, List.setIfInBounds_toArray, List.set_cons_zero, List.set_cons_succ])
              refine wpAnyH_done (by kernel_rfl) ?_ _
              go_wp2_with fail
              go_roundg (tn + 1 - (kk + 1))
              case rel => exact ⟨kk + 1, by omega, by omega, by go_num, Lib.hid (by rw [AP.out]; exact own3.out), bel3⟩
              case measure => omega
            · obtain rfl : kk = tn + 1 := by omega
              obtain ⟨g2, c2, rfl, hg1, hg2⟩ := HO.out.shape (by rw [eaL_len]; omega)
              have NC : Hid (g2 < wi.heap.size ∧ w.heap.size < g2 ∧ ∀ i, i ≤ N - (j + 1) → wi.cell? ⟨g2, i, none⟩ = some (.int .i64 (eaF U D f N (j + 1) i))) := Lib.hid ⟨hg2, Nat.lt_of_lt_of_le HQ.out.lt hg1, fun i hi => by
                have h := HO.out.cellGet (j := i) (by rw [eaL_len]; omega)
                rw [eaL_get (by omega)] at h
                exact h⟩
              have HBW := Lib.hid (HB.out.trans (HW.out.mono HB.out.size))
              have HQW := Lib.hid (HQ.out.below HW.out HQ.out.lt)
              have i6 : ¬ ((tn + 1 : Nat) : Int) ≤ (tn : Int) := by omega
              have le1 := Lib.hid (eaL_len U D f N (j + 1) (tn + 1))
              obtain ⟨l2, hl2⟩ : ∃ l, l = (eaL U D f N (j + 1) (tn + 1)).length := ⟨_, rfl⟩
              rw [← hl2] at le1 ⊢
              clear hl2 HO HW hg1 hg2
              go_wp2_with fail
              go_roundg (N - (j + 1))
              case rel => exact ⟨j + 1, g2, l2, c2, by omega, by omega, rfl, congrArg (Value.int .i64) (by omega), Lib.hid (by have := le1.out; omega), NC, HQW, HBW⟩
              case measure => omega
        · obtain rfl : j = N := by omega
          have i2 : ¬ ((j : Int) - 1 - (j : Int)) ≥ 0 := by omega
          have c0 := HC.out.2.2 0 (Nat.zero_le _)
          have PJ := Lib.hid (fun w => PO.out j hN w)
          rw [Int.natCast_add U D] at PJ
          have s0 := SM.out j 0 (Nat.le_refl _) (Nat.zero_le _)
          have P1 := PW.out j hN
          have P2 := PP.out j
          have W5 : IntKind.i64.wrap ((U : Int) + (D : Int)) = (U : Int) + (D : Int) := IntWalk.i64_in _ (by omega)
          have l1 : (0 : Int) < (ln : Int) := by have := hln.out; omega
          have l2 : 0 < ln := by have := hln.out; omega
          obtain ⟨E, hE⟩ : ∃ E, E = eaF U D f j j 0 := ⟨_, rfl⟩
          obtain ⟨PB, hPB⟩ : ∃ P : Int, P = (((U + D) ^ j : Nat) : Int) := ⟨_, rfl⟩
          rw [← hE] at c0 s0 RT
          rw [← hPB] at PJ RT
          have CC := Lib.hid (fun w => cutS E PB w (by omega) (by omega))
          have KC := Lib.hid (fun w => keptS_cut (a := E) (b := PB) w (by omega))
          obtain ⟨kp, kq, okk, hK⟩ := keptV_form (cutN E PB) (cutD E PB)
          rw [hK] at KC RT
          have gne := HC.out.2.1
          have gn2 : g ≠ w.heap.size := by omega
          have HG := HC.out.1
          have KS : Hid (∀ w', Hid (Below wo.heap.size wo w') → w'.cell? ⟨g, 0, none⟩ = some (.int .i64 E)) := Lib.hid (fun w' hb => (hb.out.cell (p := ⟨g, 0, none⟩) HG).trans c0)
          have HD : Hid (Below wo.heap.size wo wo.drew) := Lib.hid (below_drew (Below.refl wo.heap.size wo))
          have FR : Hid (∀ w' (x y : Value), Hid (Below wo.heap.size wo w') → ((w'.setCell ⟨w.heap.size, 0, none⟩ x).setCell ⟨w.heap.size, 1, none⟩ y).cell? ⟨g, 0, none⟩ = some (.int .i64 E)) := Lib.hid (fun w' x y hb => (far_2 gn2).trans (KS.out _ hb))
          clear hK hE hPB s0 P1 P2 HC SM PO PW PP TB ZB gne HG c0
          go_upto_region 18 with fail
          go_region_held3 (fun w' => w'.cell? ⟨g, 0, none⟩ = some (.int .i64 E))
            (first | with_reducible exact FR.out _ _ _ HE6 | with_reducible exact KS.out _ HE6 | with_reducible exact KS.out _ HE5 | with_reducible exact KS.out _ HD | go_keep)
            (first
              | (go_at_call 107; (with_reducible refine (PJ.out _).mono ?_); rintro e w4 ⟨rfl, rfl⟩)
              | (go_at_call 109; (with_reducible refine (CC.out _).mono ?_); rintro e w5 ⟨rfl, b5⟩; (have HE5 : Hid (Below wo.heap.size wo w5) := Lib.hid (HD.out.trans (b5.mono HD.out.size))); clear b5)
              | (go_at_call 108; (with_reducible refine (KC.out _).mono ?_); rintro e w6 ⟨rfl, b6⟩; (have HE6 : Hid (Below wo.heap.size wo w6) := Lib.hid (HE5.out.trans (b6.mono HE5.out.size))); (obtain ⟨⟨r0, r1⟩, f0, f1⟩ := (HQ.out.below HE6.out HQ.out.lt).cells); clear b6))
          all_goals
            have HB7 := Lib.hid (HB.out.trans (HE6.out.mono HB.out.size))
            go_wp2_with fail
            refine bodyPost_ret (v := .tuple #[.agg #[.int .i64 kp, .int .i64 kq], .bool okk]) (by simp [results, Try.results58, go_sem, r0, r1]) rfl ⟨by rw [RT.out], ?_⟩
            exact (HB7.out.setCell (p := ⟨w.heap.size, 0, none⟩) (Nat.le_refl _) _).setCell (p := ⟨w.heap.size, 1, none⟩) (Nat.le_refl _) _
end Go.Proofs.Ytmidlabgmmejbab
