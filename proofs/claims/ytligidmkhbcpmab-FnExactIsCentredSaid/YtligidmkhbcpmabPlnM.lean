/- Plans in the model: IsPlan, KeptUnits, IsUpward, IsCentred. -/
import Derived.Test.YtligidmkhbcpmabSprN
import Derived.Test.YtligidmkhbcpmabPlnV
import Derived.Test.YtligidmkhbcpmabTabG
namespace Go.Proofs.Ytligidmkhbcpmab
open Go.RowKit
set_option linter.unusedVariables false
set_option maxRecDepth 100000 in
set_option maxHeartbeats 4000000 in
theorem planS (ps qs : List Int) (R : Nat) (f : Nat → List Int) (v u t : Value) (B C D : Nat) (w : World) (A : Ali ps qs) (hR : R ≤ 1048576) (hf : ∀ i, i < R → (f i).length ≤ 1048576) (hv : IntsV w B v ps) (hu : IntsV w C u qs) (ht : TabV w D t R f) :
    Calls Try.prog 40 #[v, u, t] w fun e w' => e = .returned (.bool (plnB ps qs R f)) ∧ ∃ m, w' = w.drewN m := by
  have l8 := A.p.n8
  have hl := A.len
  have PB := Lib.hid A.p.bd
  have QB := Lib.hid A.q.bd
  have NO := Lib.hid (fun (h : ¬ Pln ps qs R f) => plnB_no h)
  have YES := Lib.hid (fun (h : Pln ps qs R f) => plnB_yes h)
  obtain ⟨q1, c1, rfl, _, _, _, i1⟩ := hv
  obtain ⟨q2, c2, rfl, _, _, _, i2⟩ := hu
  obtain ⟨q3, c3, rfl, _, _, i3⟩ := ht
  have E1 := Lib.hid i1
  have E2 := Lib.hid i2
  have E3 := Lib.hid i3
  have FLN := Lib.hid hf
  have HL := Lib.hid hl
  clear i1 i2 i3 A hf
  by_cases hRn : R = ps.length
  · have hne : ((R : Int) != (ps.length : Int)) = false := by simp [hRn]
    have HRN := Lib.hid hRn
    have R8 : R ≤ 8 := by omega
    have lq : qs.length ≤ 8 := by omega
    have lq1 : R ≤ qs.length := by omega
    have lq2 : qs.length ≤ R := by omega
    have lp1 : R ≤ ps.length := by omega
    clear hl hRn
    go_enter Try.func40, Try.ntmps40
    go_wp2_with fail
    go_loopg [7] R (fun gg i wr => ∃ k : Nat, k ≤ R ∧ R - k ≤ gg ∧ i = .int .i64 k ∧ Hid (∀ j, j < k → rowB (f j) ps.length 40 = true ∧ smT (f j) ps.length = ps.getD j 0) ∧ ∃ m, wr = w.drewN m)
    case atStart => exact ⟨0, Nat.zero_le _, by omega, rfl, Lib.hid (fun j hj => by omega), 0, rfl⟩
    case round =>
      obtain ⟨i, hi, hgg, rfl, HA, m, rfl⟩ := hrel
      by_cases hlt : i < R
      · obtain ⟨b, off, z, rfl, hb, hc, hz⟩ := E3.out i hlt
        obtain ⟨b2, off2, rfl, hb2, hc2⟩ := E1.out.get (i := i) (by omega)
        have j0 : (0 : Int) ≤ (i : Int) := by omega
        have j1 : (i : Int) < (R : Int) := by omega
        have j2 : (i : Int) < (ps.length : Int) := by omega
        have pb := PB.out i (by omega)
        have RN := Lib.hid (fun k => rowNS (f i) z (qs.length : Int) D (w.drewN k) (FLN.out i hlt) (hz.drewN k))
        rw [rowB_flip, ← HL.out] at RN
        have NR := Lib.hid (fun (h : rowB (f i) ps.length 40 = false) => NO.out (fun p => by rw [(sqr_rows.1 p.sq).2 i hlt] at h; cases h))
        have NS := Lib.hid (fun (h : ¬ smT (f i) ps.length = ps.getD i 0) => NO.out (fun p => h (p.row i hlt)))
        have NX : Hid (rowB (f i) ps.length 40 = true → smT (f i) ps.length = ps.getD i 0 → ∀ j, j < i + 1 → rowB (f j) ps.length 40 = true ∧ smT (f j) ps.length = ps.getD j 0) := Lib.hid (fun h g j hj => by
          rcases Nat.lt_or_ge j i with c | c
          · exact HA.out j c
          · obtain rfl : j = i := by omega
            exact ⟨h, g⟩)
        have LEN : (qs.length : Int) = (ps.length : Int) := by have := HL.out; omega
        have LQ := Lib.hid LEN
        cases hr : rowB (f i) ps.length 40
        · rw [hr] at RN
          have N3 := Lib.hid (NR.out hr)
          rw [← LQ.out] at RN
          obtain ⟨q6, d6, rfl, _⟩ := hz
          clear hr NR NS NX LEN HA hb hb2 hc2 pb
          go_wp2_with fail
          go_quiet ((go_at_call 67; first | exact quiet_draw (RN.out _) | exact quiet_add_draw (RN.out _)))
          go_wp2_with fail
          go_ret
          exact ⟨ret_bS N3.out, by first | exact ⟨_, rfl⟩ | exact ⟨_, World.drewN_drewN _ _ _⟩⟩
        · rw [hr] at RN
          have rb := (rowB_iff.1 hr)
          have TS := Lib.hid (fun k => sumS (f i) z D (w.drewN k) (FLN.out i hlt) (fun c hc => by have := rb.2 c (by omega); omega) (hz.drewN k))
          rw [rb.1] at TS
          have N4 := Lib.hid (NX.out hr)
          rw [← LQ.out] at RN
          have sb := smT_in (zs := f i) (n := ps.length) (m := 40) rb.2 ps.length (Nat.le_refl _)
          have sb1 : 0 ≤ smT (f i) ps.length ∧ smT (f i) ps.length ≤ 320 := by omega
          obtain ⟨q6, d6, rfl, _⟩ := hz
          obtain ⟨x, hx⟩ : ∃ x, x = ps.getD i 0 := ⟨_, rfl⟩
          rw [← hx] at hc2 pb NS N4
          obtain ⟨S, hS⟩ : ∃ x, x = smT (f i) ps.length := ⟨_, rfl⟩
          rw [← hS] at TS NS N4 sb1
          clear hr NR NX LEN HA hb hb2 rb sb hx hS
          by_cases he : S = x
          · have N5 := Lib.hid (N4.out he)
            subst he
            have hq : ((S : Int) != S) = false := by simp
            clear NS N4
            go_wp2_with fail
            go_quiet ((first | (go_at_call 67; first | exact quiet_draw (RN.out _) | exact quiet_add_draw (RN.out _)) | (go_at_call 66; first | exact quiet_left (TS.out _) | exact quiet_add_left (TS.out _))))
            go_wp2_with fail
            go_roundg (R - (i + 1))
            case rel => exact ⟨i + 1, by omega, by omega, by go_num, N5, by first | exact ⟨_, rfl⟩ | exact ⟨_, World.drewN_drewN _ _ _⟩⟩
            case measure => omega
          · have N5 := Lib.hid (NS.out he)
            have hq : ((S : Int) != x) = true := by rw [bne_iff_ne]; exact he
            clear NS N4
            go_wp2_with fail
            go_quiet ((first | (go_at_call 67; first | exact quiet_draw (RN.out _) | exact quiet_add_draw (RN.out _)) | (go_at_call 66; first | exact quiet_left (TS.out _) | exact quiet_add_left (TS.out _))))
            go_wp2_with fail
            go_ret
            exact ⟨ret_bS N5.out, by first | exact ⟨_, rfl⟩ | exact ⟨_, World.drewN_drewN _ _ _⟩⟩
      · have SQ : Hid (Sqr R f ps.length 40) := Lib.hid (sqr_rows.2 ⟨HRN.out, fun j hj => (HA.out j (by omega)).1⟩)
        have RW : Hid (∀ j, j < R → smT (f j) ps.length = ps.getD j 0) := Lib.hid (fun j hj => (HA.out j (by omega)).2)
        have CB := Lib.hid (fun k (hk : k < ps.length) i (hi : i ≤ R) => colT_bd (f := f) (k := k) (m := 40) i (fun j hj => SQ.out.bd j (by omega) k hk))
        have ST := Lib.hid (fun k i => show colT f k (i + 1) = colT f k i + (f i).getD k 0 from rfl)
        clear HA
        go_wp2_with fail
        go_loopg [8] qs.length (fun gg i wr => ∃ k : Nat, k ≤ qs.length ∧ qs.length - k ≤ gg ∧ i = .int .i64 k ∧ Hid (∀ j, j < k → colT f j R = qs.getD j 0) ∧ ∃ m, wr = w.drewN m)
        case atStart => exact ⟨0, Nat.zero_le _, by omega, rfl, Lib.hid (fun j hj => by omega), m, rfl⟩
        case round =>
          obtain ⟨k, hk, hgg1, rfl, HC, m1, rfl⟩ := hrel
          by_cases hlk : k < qs.length
          · have k0 : (0 : Int) ≤ (k : Int) := by omega
            have k1 : (k : Int) < (qs.length : Int) := by omega
            have kp : k < ps.length := by have := HL.out; omega
            obtain ⟨b2, off2, rfl, hb2, hc2⟩ := E2.out.get (i := k) hlk
            have qb := QB.out k hlk
            have NS := Lib.hid (fun (h : ¬ colT f k R = qs.getD k 0) => NO.out (fun p => h (p.col k kp)))
            have NX : Hid (colT f k R = qs.getD k 0 → ∀ j, j < k + 1 → colT f j R = qs.getD j 0) := Lib.hid (fun h j hj => by
              rcases Nat.lt_or_ge j k with c | c
              · exact HC.out j c
              · obtain rfl : j = k := by omega
                exact h)
            go_wp2_with fail
            go_loopg [9, 10] R (fun gg s i wr => ∃ j : Nat, j ≤ R ∧ R - j ≤ gg ∧ i = .int .i64 j ∧ s = .int .i64 (colT f k j) ∧ ∃ m, wr = w.drewN m)
            case atStart => exact ⟨0, Nat.zero_le _, by omega, rfl, rfl, m1, rfl⟩
            case round =>
              obtain ⟨j, hj, hgg2, rfl, rfl, m2, rfl⟩ := hrel
              have cb := CB.out k kp j hj
              have jb : j * 40 ≤ 320 := by omega
              by_cases hlj : j < R
              · obtain ⟨b3, off3, z, rfl, hb3, hc3, hz⟩ := E3.out j hlj
                have j0 : (0 : Int) ≤ (j : Int) := by omega
                have j1 : (j : Int) < (R : Int) := by omega
                have xb := SQ.out.bd j hlj k kp
                have fl := SQ.out.len j hlj
                obtain ⟨q6, d6, rfl, _, _, _, ir⟩ := hz
                obtain ⟨b4, off4, rfl, hb4, hc4⟩ := ir.get (i := k) (by rw [fl]; exact kp)
                have k2 : (k : Int) < ((f j).length : Int) := by rw [fl]; omega
                have st := Lib.hid (ST.out k j)
                obtain ⟨x, hx⟩ : ∃ x, x = (f j).getD k 0 := ⟨_, rfl⟩
                rw [← hx] at hc4 xb st
                obtain ⟨S, hS⟩ : ∃ x, x = colT f k j := ⟨_, rfl⟩
                rw [← hS] at cb st ⊢
                have S1 : 0 ≤ S ∧ S ≤ 320 := by omega
                obtain ⟨L, hL⟩ : ∃ L, L = (f j).length := ⟨_, rfl⟩
                rw [← hL] at hc3 k2
                clear hx hS hL fl ir cb jb hb3 hb4
                go_wp2_with fail
                go_roundg (R - (j + 1))
                case rel => exact ⟨j + 1, by omega, by omega, by go_num, by rw [st.out], m2, rfl⟩
                case measure => omega
              · have hjR : j = R := by omega
                rw [hjR] at cb ⊢
                clear hjR hlj hj jb
                have S1 : 0 ≤ colT f k R ∧ colT f k R ≤ 320 := by omega
                clear cb
                obtain ⟨x, hx⟩ : ∃ x, x = qs.getD k 0 := ⟨_, rfl⟩
                rw [← hx] at hc2 qb NS NX
                have XH := Lib.hid hx
                generalize colT f k R = S at *
                clear hx
                by_cases he : S = x
                · have N5 := Lib.hid (NX.out he)
                  subst he
                  have hq : ((S : Int) != S) = false := by simp
                  clear NS NX
                  go_wp2_with fail
                  go_roundg (qs.length - (k + 1))
                  case rel => exact ⟨k + 1, by omega, by omega, by go_num, N5, m2, rfl⟩
                  case measure => omega
                · have N5 := Lib.hid (NS.out he)
                  have hq : ((S : Int) != x) = true := by rw [bne_iff_ne]; exact he
                  clear NS NX
                  go_wp2_with fail
                  go_ret
                  exact ⟨ret_bS N5.out, m2, rfl⟩
          · have FIN := Lib.hid (YES.out ⟨SQ.out, RW.out, fun j hj => HC.out j (by have := HL.out; omega)⟩)
            clear HC
            go_wp2_with fail
            go_ret
            exact ⟨ret_bS FIN.out, m1, rfl⟩
  · have hne : ((R : Int) != (ps.length : Int)) = true := by rw [bne_iff_ne]; omega
    have N3 := Lib.hid (NO.out (fun p => hRn p.sq.rows))
    clear hl hRn
    go_enter Try.func40, Try.ntmps40
    go_wp2_with fail
    go_ret
    exact ⟨ret_bS N3.out, 0, rfl⟩
set_option maxRecDepth 100000 in
set_option maxHeartbeats 4000000 in
theorem isplS (ps qs : List Int) (R : Nat) (f : Nat → List Int) (v u t : Value) (w : World) (hp : ps.length ≤ 1048576) (hq : qs.length ≤ 1048576) (hR : R ≤ 1048576) (hf : ∀ i, i < R → (f i).length ≤ 1048576) (hv : IntsV w w.heap.size v ps) (hu : IntsV w w.heap.size u qs) (ht : TabV w w.heap.size t R f) :
    Calls Try.prog 13 #[v, u, t] w (Gives (isplV ps qs R f) w) := by
  have AL := Lib.hid (aliS ps qs v u w.heap.size w.heap.size w hp hq (Nat.le_refl _) (Nat.le_refl _) hv hu)
  cases ha : aliB ps qs
  · rw [show isplV ps qs R f = .tuple #[.bool false, .bool false] by unfold isplV isplB; rw [ha]; rfl]
    rw [ha] at AL
    clear ha
    obtain ⟨q1, c1, rfl, _⟩ := hv
    obtain ⟨q2, c2, rfl, _⟩ := hu
    obtain ⟨q3, c3, rfl, _⟩ := ht
    go_enter Try.func13, Try.ntmps13
    go_wp2_with fail
    refine AL.out.mono ?_
    rintro e w1 ⟨rfl, b1⟩
    have B1 := Lib.hid b1
    clear b1
    go_wp2_with fail
    go_ret2
    exact ⟨rfl, B1.out⟩
  · rw [show isplV ps qs R f = .tuple #[.bool (plnB ps qs R f), .bool true] by unfold isplV isplB; rw [ha, Bool.true_and]]
    rw [ha] at AL
    have PL := Lib.hid (fun w' (hb : Below w.heap.size w w') => planS ps qs R f v u t w.heap.size w.heap.size w.heap.size w' (aliB_iff.1 ha) hR hf (hv.below hb) (hu.below hb) (ht.below hb))
    clear ha
    generalize plnB ps qs R f = X at *
    obtain ⟨q1, c1, rfl, _⟩ := hv
    obtain ⟨q2, c2, rfl, _⟩ := hu
    obtain ⟨q3, c3, rfl, _⟩ := ht
    go_enter Try.func13, Try.ntmps13
    go_wp2_with fail
    refine AL.out.mono ?_
    rintro e w1 ⟨rfl, b1⟩
    have B1 := Lib.hid b1
    clear b1
    go_wp2_with fail
    refine (PL.out _ B1.out).mono ?_
    rintro e w2 ⟨rfl, m, rfl⟩
    go_wp2_with fail
    go_ret2
    exact ⟨rfl, below_drewN B1.out _⟩
set_option maxRecDepth 100000 in
set_option maxHeartbeats 4000000 in
theorem goodS10 (ps qs : List Int) (R : Nat) (f : Nat → List Int) (v u t : Value) (w : World) (hp : ps.length ≤ 1048576) (hq : qs.length ≤ 1048576) (hR : R ≤ 1048576) (hf : ∀ i, i < R → (f i).length ≤ 1048576) (hv : IntsV w w.heap.size v ps) (hu : IntsV w w.heap.size u qs) (ht : TabV w w.heap.size t R f) :
    Calls Try.prog 45 #[v, u, t] w (Gives (Value.bool (isplB ps qs R f)) w) := by
  have AL := Lib.hid (aliS ps qs v u w.heap.size w.heap.size w hp hq (Nat.le_refl _) (Nat.le_refl _) hv hu)
  cases ha : aliB ps qs
  · rw [show Value.bool (isplB ps qs R f) = Value.bool false by unfold isplB; rw [ha]; rfl]
    rw [ha] at AL
    clear ha
    obtain ⟨q1, c1, rfl, _⟩ := hv
    obtain ⟨q2, c2, rfl, _⟩ := hu
    obtain ⟨q3, c3, rfl, _⟩ := ht
    go_enter Try.func45, Try.ntmps45
    go_wp2_with fail
    refine AL.out.mono ?_
    rintro e w1 ⟨rfl, b1⟩
    have B1 := Lib.hid b1
    clear b1
    go_wp2_with fail
    go_ret
    exact ⟨rfl, B1.out⟩
  · rw [show Value.bool (isplB ps qs R f) = Value.bool (plnB ps qs R f) by unfold isplB; rw [ha, Bool.true_and]]
    rw [ha] at AL
    have PL := Lib.hid (fun w' (hb : Below w.heap.size w w') => planS ps qs R f v u t w.heap.size w.heap.size w.heap.size w' (aliB_iff.1 ha) hR hf (hv.below hb) (hu.below hb) (ht.below hb))
    clear ha
    generalize plnB ps qs R f = X at *
    obtain ⟨q1, c1, rfl, _⟩ := hv
    obtain ⟨q2, c2, rfl, _⟩ := hu
    obtain ⟨q3, c3, rfl, _⟩ := ht
    go_enter Try.func45, Try.ntmps45
    go_wp2_with fail
    refine AL.out.mono ?_
    rintro e w1 ⟨rfl, b1⟩
    have B1 := Lib.hid b1
    clear b1
    go_wp2_with fail
    refine (PL.out _ B1.out).mono ?_
    rintro e w2 ⟨rfl, m, rfl⟩
    go_wp2_with fail
    go_ret
    exact ⟨rfl, below_drewN B1.out _⟩
set_option maxRecDepth 100000 in
set_option maxHeartbeats 4000000 in
theorem kpuS (ps qs : List Int) (R : Nat) (f : Nat → List Int) (v u t : Value) (w : World) (hp : ps.length ≤ 1048576) (hq : qs.length ≤ 1048576) (hR : R ≤ 1048576) (hf : ∀ i, i < R → (f i).length ≤ 1048576) (hv : IntsV w w.heap.size v ps) (hu : IntsV w w.heap.size u qs) (ht : TabV w w.heap.size t R f) :
    Calls Try.prog 19 #[v, u, t] w (Gives (kpuV ps qs R f) w) := by
  have AL := Lib.hid (goodS10 ps qs R f v u t w hp hq hR hf hv hu ht)
  cases ha : isplB ps qs R f
  · rw [show kpuV ps qs R f = .tuple #[.int .i64 0, .bool false] from if_neg (by rw [ha]; decide)]
    rw [ha] at AL
    clear ha
    obtain ⟨q1, c1, rfl, _⟩ := hv
    obtain ⟨q2, c2, rfl, _⟩ := hu
    obtain ⟨q3, c3, rfl, _⟩ := ht
    go_enter Try.func19, Try.ntmps19
    go_wp2_with fail
    refine AL.out.mono ?_
    rintro e w1 ⟨rfl, b1⟩
    have B1 := Lib.hid b1
    clear b1
    go_wp2_with fail
    go_ret2
    exact ⟨rfl, B1.out⟩
  · rw [show kpuV ps qs R f = .tuple #[.int .i64 (dgT f R), .bool true] from if_pos ha]
    obtain ⟨A, P⟩ := isplB_iff.1 ha
    rw [ha] at AL
    clear ha
    have n8 := A.p.n8
    have hRn := P.sq.rows
    have SQL := Lib.hid P.sq.len
    have SQB := Lib.hid P.sq.bd
    have ROW := Lib.hid P.row
    have PBD := Lib.hid A.p.bd
    obtain ⟨q1, c1, rfl, _, _, _, i1⟩ := hv
    obtain ⟨q2, c2, rfl, _⟩ := hu
    obtain ⟨q3, c3, rfl, _, _, i3⟩ := ht
    have E1 := Lib.hid i3
    have EP := Lib.hid i1
    have HRN := Lib.hid hRn
    have R8 : R ≤ 8 := by omega
    have ST := Lib.hid (fun k => show dgT f (k + 1) = dgT f k + (f k).getD k 0 from rfl)
    have SB := Lib.hid (fun k (hk : k ≤ R) => dgT_bd (f := f) (m := 40) k (fun j hj => P.sq.bd j (by omega) j (by omega)))
    clear i3 i1 A P hRn
    go_enter Try.func19, Try.ntmps19
    go_wp2_with fail
    refine AL.out.mono ?_
    rintro e w1 ⟨rfl, b1⟩
    have B1 := Lib.hid b1
    clear b1
    go_wp2_with fail
    go_loopg [8, 9] R (fun gg s i wr => ∃ k : Nat, k ≤ R ∧ R - k ≤ gg ∧ i = .int .i64 k ∧ s = .int .i64 (dgT f k) ∧ Hid (Below w.heap.size w wr))
    case atStart => exact ⟨0, Nat.zero_le _, by omega, rfl, rfl, B1⟩
    case round =>
      clear B1
      obtain ⟨i, hi, hgg, rfl, rfl, HB⟩ := hrel
      by_cases hlt : i < R
      · obtain ⟨b, off, z, rfl, hb, hc, hz⟩ := E1.out i hlt
        have hcw : wr.cell? ⟨b, off + i, none⟩ = some z := by rw [HB.out.cell (p := ⟨b, off + i, none⟩) hb]; exact hc
        have j0 : (0 : Int) ≤ (i : Int) := by omega
        have j1 : (i : Int) < (R : Int) := by omega
        have FL := SQL.out i hlt
        obtain ⟨q4, d4, rfl, _, _, _, ir⟩ := hz
        obtain ⟨b2, off2, rfl, hb2, hc2⟩ := ir.get (i := i) (by have := HRN.out; omega)
        have hcw2 : wr.cell? ⟨b2, off2 + i, none⟩ = some (.int .i64 ((f i).getD i 0)) := by rw [HB.out.cell (p := ⟨b2, off2 + i, none⟩) hb2]; exact hc2
        have xb := SQB.out i hlt i (by have := HRN.out; omega)
        have sb := SB.out i hi
        have kb : i * 40 ≤ 320 := by omega
        have st := Lib.hid (ST.out i)
        have j2 : (i : Int) < ((f i).length : Int) := by have := HRN.out; omega
        obtain ⟨x, hx⟩ : ∃ x, x = (f i).getD i 0 := ⟨_, rfl⟩
        rw [← hx] at hcw2 xb st
        obtain ⟨S, hS⟩ : ∃ S, S = dgT f i := ⟨_, rfl⟩
        rw [← hS] at sb st ⊢
        have S1 : 0 ≤ S ∧ S ≤ 320 := by omega
        have FLH := Lib.hid FL
        obtain ⟨L, hL⟩ : ∃ L, L = (f i).length := ⟨_, rfl⟩
        rw [← hL] at hcw j2
        clear hc hc2 hx hS ir sb kb hb2 hb hL FL
        go_wp2_with fail
        go_roundg (R - (i + 1))
        case rel => exact ⟨i + 1, by omega, by omega, by go_num, by rw [st.out], HB⟩
        case measure => omega
      · have hkz : i = R := by omega
        have FIN := Lib.hid (show dgT f i = dgT f R by rw [hkz])
        clear hkz
        go_wp2_with fail
        go_ret2
        exact ⟨by rw [FIN.out]; rfl, HB.out⟩
set_option maxRecDepth 100000 in
set_option maxHeartbeats 4000000 in
theorem upwS (ps qs : List Int) (R : Nat) (f : Nat → List Int) (v u t : Value) (w : World) (hp : ps.length ≤ 1048576) (hq : qs.length ≤ 1048576) (hR : R ≤ 1048576) (hf : ∀ i, i < R → (f i).length ≤ 1048576) (hv : IntsV w w.heap.size v ps) (hu : IntsV w w.heap.size u qs) (ht : TabV w w.heap.size t R f) :
    Calls Try.prog 21 #[v, u, t] w (Gives (upwV ps qs R f) w) := by
  have AL := Lib.hid (goodS10 ps qs R f v u t w hp hq hR hf hv hu ht)
  cases ha : isplB ps qs R f
  · rw [show upwV ps qs R f = .tuple #[.bool false, .bool false] from if_neg (by rw [ha]; decide)]
    rw [ha] at AL
    clear ha
    obtain ⟨q1, c1, rfl, _⟩ := hv
    obtain ⟨q2, c2, rfl, _⟩ := hu
    obtain ⟨q3, c3, rfl, _⟩ := ht
    go_enter Try.func21, Try.ntmps21
    go_wp2_with fail
    refine AL.out.mono ?_
    rintro e w1 ⟨rfl, b1⟩
    have B1 := Lib.hid b1
    clear b1
    go_wp2_with fail
    go_ret2
    exact ⟨rfl, B1.out⟩
  · rw [show upwV ps qs R f = .tuple #[.bool (upwB R f), .bool true] from if_pos ha]
    obtain ⟨A, P⟩ := isplB_iff.1 ha
    rw [ha] at AL
    clear ha
    have n8 := A.p.n8
    have hRn := P.sq.rows
    have SQL := Lib.hid P.sq.len
    have SQB := Lib.hid P.sq.bd
    have ROW := Lib.hid P.row
    have PBD := Lib.hid A.p.bd
    obtain ⟨q1, c1, rfl, _, _, _, i1⟩ := hv
    obtain ⟨q2, c2, rfl, _⟩ := hu
    obtain ⟨q3, c3, rfl, _, _, i3⟩ := ht
    have E1 := Lib.hid i3
    have EP := Lib.hid i1
    have HRN := Lib.hid hRn
    have R8 : R ≤ 8 := by omega
    have YES := Lib.hid (fun (h : Upw R f) => upwB_yes h)
    have NO := Lib.hid (fun (h : ¬ Upw R f) => upwB_no h)
    clear i3 i1 A P hRn
    go_enter Try.func21, Try.ntmps21
    go_wp2_with fail
    refine AL.out.mono ?_
    rintro e w1 ⟨rfl, b1⟩
    have B1 := Lib.hid b1
    clear b1
    go_wp2_with fail
    go_loopg [8] R (fun gg i wr => ∃ k : Nat, k ≤ R ∧ R - k ≤ gg ∧ i = .int .i64 k ∧ Hid (∀ j, j < k → ∀ c, c < j → (f j).getD c 0 ≤ 0) ∧ Hid (Below w.heap.size w wr))
    case atStart => exact ⟨0, Nat.zero_le _, by omega, rfl, Lib.hid (fun j hj => by omega), B1⟩
    case round =>
      clear B1
      obtain ⟨i, hi, hgg, rfl, HL, HB⟩ := hrel
      by_cases hlt : i < R
      · have j0 : (0 : Int) ≤ (i : Int) := by omega
        have j1 : (i : Int) < (R : Int) := by omega
        go_wp2_with fail
        go_loopg [9] i (fun gg j wr => ∃ k : Nat, k ≤ i ∧ i - k ≤ gg ∧ j = .int .i64 k ∧ Hid (∀ c, c < k → (f i).getD c 0 ≤ 0) ∧ Hid (Below w.heap.size w wr))
        case atStart => exact ⟨0, Nat.zero_le _, by omega, rfl, Lib.hid (fun j hj => by omega), HB⟩
        case round =>
          clear HB
          obtain ⟨k, hk, hgg2, rfl, HK, HB⟩ := hrel
          by_cases hlk : k < i
          · obtain ⟨b, off, z, rfl, hb, hc, hz⟩ := E1.out i hlt
            have hcw : wr.cell? ⟨b, off + i, none⟩ = some z := by rw [HB.out.cell (p := ⟨b, off + i, none⟩) hb]; exact hc
            have k0 : (0 : Int) ≤ (k : Int) := by omega
            have k1 : (k : Int) < (i : Int) := by omega
            have FL := SQL.out i hlt
            obtain ⟨q4, d4, rfl, _, _, _, ir⟩ := hz
            obtain ⟨b2, off2, rfl, hb2, hc2⟩ := ir.get (i := k) (by have := HRN.out; omega)
            have hcw2 : wr.cell? ⟨b2, off2 + k, none⟩ = some (.int .i64 ((f i).getD k 0)) := by rw [HB.out.cell (p := ⟨b2, off2 + k, none⟩) hb2]; exact hc2
            have xb := SQB.out i hlt k (by have := HRN.out; omega)
            have k2 : (k : Int) < ((f i).length : Int) := by have := HRN.out; omega
            have NX : Hid ((f i).getD k 0 ≤ 0 → ∀ c, c < k + 1 → (f i).getD c 0 ≤ 0) := Lib.hid (fun h c hc => by
              rcases Nat.lt_or_ge c k with q | q
              · exact HK.out c q
              · obtain rfl : c = k := by omega
                exact h)
            have N2 := Lib.hid (fun (h : ¬ (f i).getD k 0 ≤ 0) => NO.out (fun p => h (p i hlt k hlk)))
            obtain ⟨x, hx⟩ : ∃ x, x = (f i).getD k 0 := ⟨_, rfl⟩
            rw [← hx] at hcw2 xb NX N2
            obtain ⟨L, hL⟩ : ∃ L, L = (f i).length := ⟨_, rfl⟩
            rw [← hL] at hcw k2
            clear hc hc2 hx ir hb2 hb hL FL HK
            by_cases hle : x ≤ 0
            · have N3 := Lib.hid (NX.out hle)
              have hnl : ¬ 0 < x := by omega
              clear NX N2 hle
              go_wp2_with fail
              go_roundg (i - (k + 1))
              case rel => exact ⟨k + 1, by omega, by omega, by go_num, N3, HB⟩
              case measure => omega
            · have N3 := Lib.hid (N2.out hle)
              have hnl : 0 < x := by omega
              clear NX N2 hle
              go_wp2_with fail
              go_ret2
              exact ⟨by rw [N3.out]; rfl, HB.out⟩
          · have N1 : Hid (∀ j, j < i + 1 → ∀ c, c < j → (f j).getD c 0 ≤ 0) := Lib.hid (fun j hj => by
              rcases Nat.lt_or_ge j i with q | q
              · exact HL.out j q
              · obtain rfl : j = i := by omega
                intro c hc; exact HK.out c (by omega))
            have k1 : ¬ (k : Int) < (i : Int) := by omega
            clear HK HL
            go_wp2_with fail
            go_roundg (R - (i + 1))
            case rel => exact ⟨i + 1, by omega, by omega, by go_num, N1, HB⟩
            case measure => omega
      · have FIN := Lib.hid (YES.out (fun j hj => HL.out j (by omega)))
        clear HL
        go_wp2_with fail
        go_ret2
        exact ⟨by rw [FIN.out]; rfl, HB.out⟩
set_option maxRecDepth 100000 in
set_option maxHeartbeats 4000000 in
theorem cenS (ps qs : List Int) (R : Nat) (f : Nat → List Int) (v u t : Value) (w : World) (hp : ps.length ≤ 1048576) (hq : qs.length ≤ 1048576) (hR : R ≤ 1048576) (hf : ∀ i, i < R → (f i).length ≤ 1048576) (hv : IntsV w w.heap.size v ps) (hu : IntsV w w.heap.size u qs) (ht : TabV w w.heap.size t R f) :
    Calls Try.prog 23 #[v, u, t] w (Gives (cenV ps qs R f) w) := by
  have AL := Lib.hid (goodS10 ps qs R f v u t w hp hq hR hf hv hu ht)
  cases ha : isplB ps qs R f
  · rw [show cenV ps qs R f = .tuple #[.bool false, .bool false] from if_neg (by rw [ha]; decide)]
    rw [ha] at AL
    clear ha
    obtain ⟨q1, c1, rfl, _⟩ := hv
    obtain ⟨q2, c2, rfl, _⟩ := hu
    obtain ⟨q3, c3, rfl, _⟩ := ht
    go_enter Try.func23, Try.ntmps23
    go_wp2_with fail
    refine AL.out.mono ?_
    rintro e w1 ⟨rfl, b1⟩
    have B1 := Lib.hid b1
    clear b1
    go_wp2_with fail
    go_ret2
    exact ⟨rfl, B1.out⟩
  · rw [show cenV ps qs R f = .tuple #[.bool (cenB R f ps.length), .bool true] from if_pos ha]
    obtain ⟨A, P⟩ := isplB_iff.1 ha
    rw [ha] at AL
    clear ha
    have n8 := A.p.n8
    have hRn := P.sq.rows
    have SQL := Lib.hid P.sq.len
    have SQB := Lib.hid P.sq.bd
    have ROW := Lib.hid P.row
    have PBD := Lib.hid A.p.bd
    obtain ⟨q1, c1, rfl, _, _, _, i1⟩ := hv
    obtain ⟨q2, c2, rfl, _⟩ := hu
    obtain ⟨q3, c3, rfl, _, _, i3⟩ := ht
    have E1 := Lib.hid i3
    have EP := Lib.hid i1
    have HRN := Lib.hid hRn
    have R8 : R ≤ 8 := by omega
    have DM := Lib.hid (fun i (hi : i < R) => show dfT (f i) i ps.length = 0 ↔ moT (f i) ps.length = ps.getD i 0 * (i : Int) by rw [df_mo, P.row i hi]; omega)
    have MO := Lib.hid (fun i (hi : i < R) x B w' (h : IntsV w' B x (f i)) => show Calls Try.prog 47 #[x] w' (fun e w'' => e = .returned (.int .i64 (moT (f i) ps.length)) ∧ w' = w'') by
      have h1 := momentS (f i) x B w' (by rw [P.sq.len i hi]; exact n8) (fun c hc => P.sq.bd i hi c (by rw [P.sq.len i hi] at hc; exact hc)) h
      rw [P.sq.len i hi] at h1; exact h1)
    have YES := Lib.hid (fun (h : Cen R f ps.length) => cenB_yes h)
    have NO := Lib.hid (fun (h : ¬ Cen R f ps.length) => cenB_no h)
    clear i3 i1 A P hRn
    go_enter Try.func23, Try.ntmps23
    go_wp2_with fail
    refine AL.out.mono ?_
    rintro e w1 ⟨rfl, b1⟩
    have B1 := Lib.hid b1
    clear b1
    go_wp2_with fail
    go_loopg [8] R (fun gg i wr => ∃ k : Nat, k ≤ R ∧ R - k ≤ gg ∧ i = .int .i64 k ∧ Hid (∀ j, j < k → dfT (f j) j ps.length = 0) ∧ Hid (Below w.heap.size w wr))
    case atStart => exact ⟨0, Nat.zero_le _, by omega, rfl, Lib.hid (fun j hj => by omega), B1⟩
    case round =>
      clear B1
      obtain ⟨i, hi, hgg, rfl, HL, HB⟩ := hrel
      by_cases hlt : i < R
      · obtain ⟨b, off, z, rfl, hb, hc, hz⟩ := E1.out i hlt
        have hcw : wr.cell? ⟨b, off + i, none⟩ = some z := by rw [HB.out.cell (p := ⟨b, off + i, none⟩) hb]; exact hc
        have j0 : (0 : Int) ≤ (i : Int) := by omega
        have j1 : (i : Int) < (R : Int) := by omega
        obtain ⟨b2, off2, rfl, hb2, hc2⟩ := EP.out.get (i := i) (by have := HRN.out; omega)
        have hcw2 : wr.cell? ⟨b2, off2 + i, none⟩ = some (.int .i64 (ps.getD i 0)) := by rw [HB.out.cell (p := ⟨b2, off2 + i, none⟩) hb2]; exact hc2
        have xb := PBD.out i (by have := HRN.out; omega)
        have hzw := hz.below HB.out
        have MI := Lib.hid (fun k => MO.out i hlt z _ (wr.drewN k) (hzw.drewN k))
        have j2 : (i : Int) < (ps.length : Int) := by have := HRN.out; omega
        have e0 : 0 ≤ ps.getD i 0 * (i : Int) := Int.mul_nonneg xb.1 (by omega)
        have e1 : ps.getD i 0 * (i : Int) ≤ 40 * 8 := Int.mul_le_mul xb.2 (by omega) (by omega) (by omega)
        have dm := DM.out i hlt
        have NX : Hid (moT (f i) ps.length = ps.getD i 0 * (i : Int) → ∀ j, j < i + 1 → dfT (f j) j ps.length = 0) := Lib.hid (fun h j hj => by
          rcases Nat.lt_or_ge j i with c | c
          · exact HL.out j c
          · obtain rfl : j = i := by omega
            exact dm.2 h)
        have N2 := Lib.hid (fun (h : ¬ moT (f i) ps.length = ps.getD i 0 * (i : Int)) => NO.out (fun u => h (dm.1 (u i hlt))))
        obtain ⟨q4, d4, rfl, _⟩ := hz
        obtain ⟨x, hx⟩ : ∃ x, x = ps.getD i 0 := ⟨_, rfl⟩
        rw [← hx] at hcw2 hc2 xb NX N2 e0 e1
        generalize moT (f i) ps.length = M at *
        obtain ⟨y, hy⟩ : ∃ y, y = x * (i : Int) := ⟨_, rfl⟩
        have WM : IntKind.i64.wrap (x * (i : Int)) = y := by rw [hy]; exact IntWalk.i64_in _ (by omega)
        rw [← hy] at NX N2
        clear hc hb hx hb2 HL dm hzw e0 e1 hc2 hy
        by_cases he : M = y
        · have N3 := Lib.hid (NX.out he)
          subst he
          have hq : ((M : Int) != M) = false := by simp
          clear NX N2
          go_wp2_with fail
          go_quiet ((go_at_call 47; first | exact quiet_left (MI.out _) | exact quiet_add_left (MI.out _)))
          go_wp2_with fail
          go_roundg (R - (i + 1))
          case rel => exact ⟨i + 1, by omega, by omega, by go_num, N3, by first | exact HB | exact Lib.hid (below_drewN HB.out _)⟩
          case measure => omega
        · have N3 := Lib.hid (N2.out he)
          have hq : ((M : Int) != y) = true := by rw [bne_iff_ne]; exact he
          clear NX N2
          go_wp2_with fail
          go_quiet ((go_at_call 47; first | exact quiet_left (MI.out _) | exact quiet_add_left (MI.out _)))
          go_wp2_with fail
          go_ret2
          exact ⟨by rw [N3.out]; rfl, by first | exact HB.out | exact below_drewN HB.out _⟩
      · have FIN := Lib.hid (YES.out (fun j hj => HL.out j (by omega)))
        clear HL
        go_wp2_with fail
        go_ret2
        exact ⟨by rw [FIN.out]; rfl, HB.out⟩
end Go.Proofs.Ytligidmkhbcpmab
