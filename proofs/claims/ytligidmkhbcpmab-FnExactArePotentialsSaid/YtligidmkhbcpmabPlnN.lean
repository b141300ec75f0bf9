/- Costs and potentials in the model: PlanCost and ArePotentials. -/
import Derived.Test.YtligidmkhbcpmabPlnM
namespace Go.Proofs.Ytligidmkhbcpmab
open Go.RowKit
set_option linter.unusedVariables false
set_option maxRecDepth 100000 in
set_option maxHeartbeats 2000000 in
theorem numS (zs : List Int) (v : Value) (n : Int) (B : Nat) (w : World) (hn : zs.length ≤ 1048576) (h : IntsV w B v zs) :
    Calls Try.prog 51 #[v, .int .i64 n] w fun e w' => e = .returned (.bool (fromB (-999) 999 zs && decide ((zs.length : Int) = n))) ∧ ∃ m, w' = w.drewN m := by
  obtain ⟨q, cq, rfl, lq, mq, zq, iq⟩ := h
  have E1 := Lib.hid iq
  have YES := Lib.hid (fun h => from_yes (lo := -999) (hi := 999) (zs := zs) h)
  have NO := Lib.hid (fun k hk h => show (fromB (-999) 999 zs && decide ((zs.length : Int) = n)) = false by rw [from_no (lo := -999) (hi := 999) (zs := zs) (i := k) hk h, Bool.false_and])
  clear iq zq mq lq
  go_enter Try.func51, Try.ntmps51
  go_wp2_with fail
  go_loopg [5] zs.length (fun gg i wr => ∃ k : Nat, k ≤ zs.length ∧ zs.length - k ≤ gg ∧ i = .int .i64 k ∧ Hid (∀ j, j < k → -999 ≤ zs.getD j 0 ∧ zs.getD j 0 ≤ 999) ∧ ∃ n, wr = w.drewN n)
  case atStart => exact ⟨0, Nat.zero_le _, by omega, rfl, Lib.hid (fun j hj => by omega), 0, rfl⟩
  case round =>
    obtain ⟨k, hk, hgg, rfl, HA, n1, rfl⟩ := hrel
    by_cases hlt : k < zs.length
    · obtain ⟨b, off, rfl, hb, hc⟩ := E1.out.get hlt
      have hcw : (w.drewN n1).cell? ⟨b, off + k, none⟩ = some (.int .i64 (zs.getD k 0)) := hc
      have i0 : (0 : Int) ≤ (k : Int) := by omega
      have i1 : (k : Int) < (zs.length : Int) := by omega
      have NO2 := Lib.hid (NO.out k hlt)
      have NX : Hid (-999 ≤ zs.getD k 0 ∧ zs.getD k 0 ≤ 999 → ∀ j, j < k + 1 → -999 ≤ zs.getD j 0 ∧ zs.getD j 0 ≤ 999) := Lib.hid (fun h j hj => by
        rcases Nat.lt_or_ge j k with h' | h'
        · exact HA.out j h'
        · obtain rfl : j = k := by omega
          exact h)
      obtain ⟨z, hz⟩ : ∃ z, z = zs.getD k 0 := ⟨_, rfl⟩
      rw [← hz] at hcw NO2 NX
      clear hc hz HA
      by_cases hin : -999 ≤ z ∧ z ≤ 999
      · have I := Lib.hid (fun w => inS_true z (-999) 999 w hin)
        have N2 := Lib.hid (NX.out hin)
        clear NX NO2 hin
        go_wp2_with fail
        refine (I.out _).mono ?_
        rintro e w1 ⟨rfl, rfl⟩
        go_wp2_with fail
        go_roundg (zs.length - (k + 1))
        case rel => exact ⟨k + 1, by omega, by omega, by go_num, N2, _, rfl⟩
        case measure => omega
      · have I := Lib.hid (fun w => inS_false z (-999) 999 w hin)
        have N2 := Lib.hid (NO2.out hin)
        clear NX NO2 hin
        go_wp2_with fail
        refine (I.out _).mono ?_
        rintro e w1 ⟨rfl, rfl⟩
        go_wp2_with fail
        go_ret
        exact ⟨ret_bS N2.out, _, rfl⟩
    · have R := Lib.hid (show (fromB (-999) 999 zs && decide ((zs.length : Int) = n)) = decide ((zs.length : Int) = n) by rw [YES.out (fun i hi => HA.out i (by omega)), Bool.true_and])
      clear HA
      by_cases he : (zs.length : Int) = n
      · subst he
        have R2 := Lib.hid (show fromB (-999) 999 zs = true by have := R.out; rwa [decide_eq_true rfl, Bool.and_true] at this)
        clear R
        go_wp2_with fail
        go_ret
        exact ⟨by first | (rw [R2.out]; rfl) | (rw [R2.out]; simp), _, rfl⟩
      · have hlb : ((zs.length : Int) == n) = false := by simpa using he
        have R2 := Lib.hid (show (fromB (-999) 999 zs && decide ((zs.length : Int) = n)) = false by rw [R.out, decide_eq_false he])
        clear R he
        go_wp2_with fail
        go_ret
        exact ⟨ret_bS R2.out, _, rfl⟩
set_option maxRecDepth 100000 in
set_option maxHeartbeats 4000000 in
theorem costsS (ps qs : List Int) (R : Nat) (f : Nat → List Int) (v u t : Value) (B C D : Nat) (w : World) (hl : ps.length = qs.length) (h8 : ps.length ≤ 1048576) (hR : R ≤ 1048576) (hf : ∀ i, i < R → (f i).length ≤ 1048576) (hv : IntsV w B v ps) (hu : IntsV w C u qs) (ht : TabV w D t R f) :
    Calls Try.prog 48 #[v, u, t] w fun e w' => e = .returned (.bool (sqB R f ps.length 99)) ∧ ∃ m, w' = w.drewN m := by
  have NO := Lib.hid (fun (h : ¬ Sqr R f ps.length 99) => sqB_no h)
  have YES := Lib.hid (fun (h : Sqr R f ps.length 99) => sqB_iff.2 h)
  obtain ⟨q1, c1, rfl, _⟩ := hv
  obtain ⟨q2, c2, rfl, _⟩ := hu
  obtain ⟨q3, c3, rfl, _, _, i3⟩ := ht
  have E3 := Lib.hid i3
  have FLN := Lib.hid hf
  have HL := Lib.hid hl
  clear i3 hf hl
  go_enter Try.func48, Try.ntmps48
  go_wp2_with fail
  go_loopg [7] R (fun gg i wr => ∃ k : Nat, k ≤ R ∧ R - k ≤ gg ∧ i = .int .i64 k ∧ Hid (∀ j, j < k → rowB (f j) ps.length 99 = true) ∧ ∃ m, wr = w.drewN m)
  case atStart => exact ⟨0, Nat.zero_le _, by omega, rfl, Lib.hid (fun j hj => by omega), 0, rfl⟩
  case round =>
    obtain ⟨i, hi, hgg, rfl, HA, m, rfl⟩ := hrel
    by_cases hlt : i < R
    · obtain ⟨b, off, z, rfl, hb, hc, hz⟩ := E3.out i hlt
      have j0 : (0 : Int) ≤ (i : Int) := by omega
      have j1 : (i : Int) < (R : Int) := by omega
      have fl := FLN.out i hlt
      obtain ⟨q6, d6, rfl, _, _, _, ir⟩ := hz
      have E4 := Lib.hid ir
      obtain ⟨L, hL⟩ : ∃ L, L = (f i).length := ⟨_, rfl⟩
      rw [← hL] at hc fl
      have LH := Lib.hid hL
      clear ir hL hb
      go_wp2_with fail
      go_loopg [8] L (fun gg j wr => ∃ k : Nat, k ≤ L ∧ L - k ≤ gg ∧ j = .int .i64 k ∧ Hid (∀ c, c < k → 0 ≤ (f i).getD c 0 ∧ (f i).getD c 0 ≤ 99) ∧ ∃ m, wr = w.drewN m)
      case atStart => exact ⟨0, Nat.zero_le _, by omega, rfl, Lib.hid (fun j hj => by omega), m, rfl⟩
      case round =>
        obtain ⟨k, hk, hgg2, rfl, HK, m1, rfl⟩ := hrel
        by_cases hlk : k < L
        · obtain ⟨b3, off3, rfl, hb3, hc3⟩ := E4.out.get (i := k) (by rw [← LH.out]; exact hlk)
          have k0 : (0 : Int) ≤ (k : Int) := by omega
          have k1 : (k : Int) < (L : Int) := by omega
          have NX : Hid (0 ≤ (f i).getD k 0 ∧ (f i).getD k 0 ≤ 99 → ∀ c, c < k + 1 → 0 ≤ (f i).getD c 0 ∧ (f i).getD c 0 ≤ 99) := Lib.hid (fun h c hc => by
            rcases Nat.lt_or_ge c k with q | q
            · exact HK.out c q
            · obtain rfl : c = k := by omega
              exact h)
          have N2 := Lib.hid (fun (h : ¬ (0 ≤ (f i).getD k 0 ∧ (f i).getD k 0 ≤ 99)) => NO.out (fun s => h (s.bd i hlt k (by have := s.len i hlt; have := LH.out; omega))))
          obtain ⟨x, hx⟩ : ∃ x, x = (f i).getD k 0 := ⟨_, rfl⟩
          rw [← hx] at hc3 NX N2
          clear hx hb3 HK
          by_cases hin : 0 ≤ x ∧ x ≤ 99
          · have I := Lib.hid (fun w => inS_true x 0 99 w hin)
            have N3 := Lib.hid (NX.out hin)
            clear NX N2 hin
            go_wp2_with fail
            refine (I.out _).mono ?_
            rintro e w2 ⟨rfl, rfl⟩
            go_wp2_with fail
            go_roundg (L - (k + 1))
            case rel => exact ⟨k + 1, by omega, by omega, by go_num, N3, by first | exact ⟨_, rfl⟩ | exact ⟨_, World.drewN_drewN _ _ _⟩⟩
            case measure => omega
          · have I := Lib.hid (fun w => inS_false x 0 99 w hin)
            have N3 := Lib.hid (N2.out hin)
            clear NX N2 hin
            go_wp2_with fail
            refine (I.out _).mono ?_
            rintro e w2 ⟨rfl, rfl⟩
            go_wp2_with fail
            go_ret
            exact ⟨ret_bS N3.out, by first | exact ⟨_, rfl⟩ | exact ⟨_, World.drewN_drewN _ _ _⟩⟩
        · have hkL : k = L := by omega
          by_cases hn : L = qs.length
          · have N1 : Hid (∀ j, j < i + 1 → rowB (f j) ps.length 99 = true) := Lib.hid (fun j hj => by
              rcases Nat.lt_or_ge j i with q | q
              · exact HA.out j q
              · obtain rfl : j = i := by omega
                have e1 := LH.out
                have e2 := HL.out
                exact rowB_iff.2 ⟨by omega, fun c hc => HK.out c (by omega)⟩)
            have hq : ((L : Int) != (qs.length : Int)) = false := by simp [hn]
            have hq2 : ¬ (k : Int) < (L : Int) := by omega
            clear HK HA hkL hn
            go_wp2_with fail
            go_roundg (R - (i + 1))
            case rel => exact ⟨i + 1, by omega, by omega, by go_num, N1, by first | exact ⟨_, rfl⟩ | exact ⟨_, World.drewN_drewN _ _ _⟩⟩
            case measure => omega
          · have N1 := Lib.hid (NO.out (fun s => hn (by have := s.len i hlt; have := LH.out; have := HL.out; omega)))
            have hq : ((L : Int) != (qs.length : Int)) = true := by rw [bne_iff_ne]; omega
            have hq2 : ¬ (k : Int) < (L : Int) := by omega
            clear HK HA hkL hn
            go_wp2_with fail
            go_ret
            exact ⟨ret_bS N1.out, by first | exact ⟨_, rfl⟩ | exact ⟨_, World.drewN_drewN _ _ _⟩⟩
    · have hiR : i = R := by omega
      by_cases hn : R = ps.length
      · have FIN := Lib.hid (YES.out (sqr_rows.2 ⟨hn, fun j hj => HA.out j (by omega)⟩))
        have hq : ((R : Int) == (ps.length : Int)) = true := by rw [beq_iff_eq]; omega
        clear HA hiR hn
        go_wp2_with fail
        go_ret
        exact ⟨ret_bS FIN.out, by first | exact ⟨_, rfl⟩ | exact ⟨_, World.drewN_drewN _ _ _⟩⟩
      · have FIN := Lib.hid (NO.out (fun s => hn s.rows))
        have hq : ((R : Int) == (ps.length : Int)) = false := by rw [beq_eq_false_iff_ne]; omega
        clear HA hiR hn
        go_wp2_with fail
        go_ret
        exact ⟨ret_bS FIN.out, by first | exact ⟨_, rfl⟩ | exact ⟨_, World.drewN_drewN _ _ _⟩⟩
set_option maxRecDepth 100000 in
set_option maxHeartbeats 4000000 in
theorem costS10 (R : Nat) (f : Nat → List Int) (c : Nat → List Int) (n : Nat) (v u : Value) (B C : Nat) (w : World) (s : Sqr R f n 40) (t : Sqr R c n 99) (hn : n ≤ 8) (hv : TabV w B v R f) (hu : TabV w C u R c) :
    Calls Try.prog 49 #[v, u] w fun e w' => e = .returned (.int .i64 (coT f c n R)) ∧ ∃ m, w' = w.drewN m := by
  obtain ⟨q1, c1, rfl, _, _, i1⟩ := hv
  obtain ⟨q2, c2, rfl, _, _, i2⟩ := hu
  have E1 := Lib.hid i1
  have E2 := Lib.hid i2
  have hR := s.rows
  have FL := Lib.hid s.len
  have CL := Lib.hid t.len
  have FB := Lib.hid s.bd
  have CB := Lib.hid t.bd
  have SB := Lib.hid (fun i (hi : i ≤ R) => co_bd (f := f) (c := c) (n := n) hn i (fun j hj => s.bd j (by omega)) (fun j hj => t.bd j (by omega)))
  have RB := Lib.hid (fun i (hi : i < R) k (hk : k ≤ n) => rc_bd (zs := f i) (cs := c i) (n := n) (s.bd i hi) (t.bd i hi) k hk)
  have ST := Lib.hid (fun i k => show coT f c n i + rcT (f i) (c i) (k + 1) = coT f c n i + rcT (f i) (c i) k + (f i).getD k 0 * (c i).getD k 0 by simp only [rcT]; omega)
  have SN := Lib.hid (fun i => show coT f c n (i + 1) = coT f c n i + rcT (f i) (c i) n from rfl)
  have SZ := Lib.hid (fun i => show coT f c n i + rcT (f i) (c i) 0 = coT f c n i by simp [rcT])
  clear i1 i2 s t
  have R8 : R ≤ 8 := by omega
  clear hR
  go_enter Try.func49, Try.ntmps49
  go_wp2_with fail
  go_loopg [5, 6] R (fun gg t i wr => ∃ k : Nat, k ≤ R ∧ R - k ≤ gg ∧ i = .int .i64 k ∧ t = .int .i64 (coT f c n k) ∧ ∃ m, wr = w.drewN m)
  case atStart => exact ⟨0, Nat.zero_le _, by omega, rfl, rfl, 0, rfl⟩
  case round =>
    obtain ⟨i, hi, hgg, rfl, rfl, m, rfl⟩ := hrel
    by_cases hlt : i < R
    · obtain ⟨b, off, z, rfl, hb, hc, hz⟩ := E1.out i hlt
      obtain ⟨b2, off2, y, rfl, hb2, hc2, hy⟩ := E2.out i hlt
      have j0 : (0 : Int) ≤ (i : Int) := by omega
      have j1 : (i : Int) < (R : Int) := by omega
      have fl := FL.out i hlt
      have cl := CL.out i hlt
      obtain ⟨q4, d4, rfl, _, _, _, ir⟩ := hz
      obtain ⟨q5, d5, rfl, _, _, _, jr⟩ := hy
      rw [fl] at hc
      rw [cl] at hc2
      have E3 := Lib.hid ir
      have E4 := Lib.hid jr
      have HF := Lib.hid fl
      have HC := Lib.hid cl
      have sn := Lib.hid (SN.out i)
      have sz := Lib.hid (SZ.out i)
      have cb := SB.out i hi
      clear ir jr fl cl hb hb2
      go_wp2_with fail
      go_loopg [5, 7] n (fun gg t j wr => ∃ k : Nat, k ≤ n ∧ n - k ≤ gg ∧ j = .int .i64 k ∧ t = .int .i64 (coT f c n i + rcT (f i) (c i) k) ∧ ∃ m, wr = w.drewN m)
      case atStart => exact ⟨0, Nat.zero_le _, by omega, rfl, by rw [sz.out], m, rfl⟩
      case round =>
        obtain ⟨k, hk, hgg2, rfl, rfl, m1, rfl⟩ := hrel
        by_cases hlk : k < n
        · obtain ⟨b3, off3, rfl, hb3, hc3⟩ := E3.out.get (i := k) (by rw [HF.out]; exact hlk)
          obtain ⟨b4, off4, rfl, hb4, hc4⟩ := E4.out.get (i := k) (by rw [HC.out]; exact hlk)
          have k0 : (0 : Int) ≤ (k : Int) := by omega
          have k1 : (k : Int) < (n : Int) := by omega
          have xb := FB.out i hlt k hlk
          have yb := CB.out i hlt k hlk
          have rb := RB.out i hlt k hk
          have st := Lib.hid (ST.out i k)
          have kb : k * 3960 ≤ 31680 := by omega
          have ib : i * 31680 ≤ 253440 := by omega
          have e0 : 0 ≤ (f i).getD k 0 * (c i).getD k 0 := Int.mul_nonneg xb.1 yb.1
          have e1 : (f i).getD k 0 * (c i).getD k 0 ≤ 40 * 99 := Int.mul_le_mul xb.2 yb.2 yb.1 (by omega)
          obtain ⟨x, hx⟩ : ∃ x, x = (f i).getD k 0 := ⟨_, rfl⟩
          rw [← hx] at hc3 xb st e0 e1
          obtain ⟨z, hz⟩ : ∃ x, x = (c i).getD k 0 := ⟨_, rfl⟩
          rw [← hz] at hc4 yb st e0 e1
          obtain ⟨S, hS⟩ : ∃ S, S = coT f c n i + rcT (f i) (c i) k := ⟨_, rfl⟩
          have S1 : 0 ≤ S ∧ S ≤ 285120 := by omega
          rw [← hS] at st ⊢
          have WM : IntKind.i64.wrap (x * z) = x * z := IntWalk.i64_in _ (by omega)
          have WS : IntKind.i64.wrap (S + x * z) = S + x * z := IntWalk.i64_in _ (by omega)
          clear hx hz hS rb kb ib cb hb3 hb4
          go_wp2_with fail
          go_quiet (fail)
          go_wp2_with fail
          go_roundg (n - (k + 1))
          case rel => exact ⟨k + 1, by omega, by omega, by go_num, by rw [st.out], by first | exact ⟨_, rfl⟩ | exact ⟨_, World.drewN_drewN _ _ _⟩⟩
          case measure => omega
        · have hkn : k = n := by omega
          have N1 := Lib.hid (show coT f c n (i + 1) = coT f c n i + rcT (f i) (c i) k by rw [sn.out, hkn])
          clear hkn
          go_wp2_with fail
          go_roundg (R - (i + 1))
          case rel => exact ⟨i + 1, by omega, by omega, by go_num, by rw [N1.out], by first | exact ⟨_, rfl⟩ | exact ⟨_, World.drewN_drewN _ _ _⟩⟩
          case measure => omega
    · have hiR : i = R := by omega
      have FIN := Lib.hid (show coT f c n i = coT f c n R by rw [hiR])
      clear hiR
      go_wp2_with fail
      go_ret
      exact ⟨by rw [FIN.out]; rfl, _, rfl⟩
set_option maxRecDepth 100000 in
set_option maxHeartbeats 4000000 in
theorem pcoS (ps qs : List Int) (R : Nat) (f : Nat → List Int) (C : Nat) (c : Nat → List Int) (v u t x : Value) (w : World) (hp : ps.length ≤ 1048576) (hq : qs.length ≤ 1048576) (hR : R ≤ 1048576) (hf : ∀ i, i < R → (f i).length ≤ 1048576) (hC : C ≤ 1048576) (hcl : ∀ i, i < C → (c i).length ≤ 1048576) (hv : IntsV w w.heap.size v ps) (hu : IntsV w w.heap.size u qs) (ht : TabV w w.heap.size t R f) (hc : TabV w w.heap.size x C c) :
    Calls Try.prog 25 #[v, u, t, x] w (Gives (pcoV ps qs R f C c) w) := by
  have AL := Lib.hid (goodS10 ps qs R f v u t w hp hq hR hf hv hu ht)
  cases ha : isplB ps qs R f
  · rw [show pcoV ps qs R f C c = .tuple #[.int .i64 0, .bool false] from if_neg (by rw [ha, Bool.false_and]; decide)]
    rw [ha] at AL
    clear ha
    obtain ⟨q1, c1, rfl, _⟩ := hv
    obtain ⟨q2, c2, rfl, _⟩ := hu
    obtain ⟨q3, c3, rfl, _⟩ := ht
    obtain ⟨q4, c4, rfl, _⟩ := hc
    go_enter Try.func25, Try.ntmps25
    go_wp2_with fail
    refine AL.out.mono ?_
    rintro e w1 ⟨rfl, b1⟩
    have B1 := Lib.hid b1
    clear b1
    go_wp2_with fail
    go_ret2
    exact ⟨rfl, B1.out⟩
  · rw [ha] at AL
    obtain ⟨A, P⟩ := isplB_iff.1 ha
    have SQ := Lib.hid (fun w' (hb : Below w.heap.size w w') => costsS ps qs C c v u x w.heap.size w.heap.size w.heap.size w' A.len hp hC hcl (hv.below hb) (hu.below hb) (hc.below hb))
    cases hs : sqB C c ps.length 99
    · rw [show pcoV ps qs R f C c = .tuple #[.int .i64 0, .bool false] from if_neg (by rw [ha, hs]; decide)]
      rw [hs] at SQ
      clear ha hs A P
      obtain ⟨q1, c1, rfl, _⟩ := hv
      obtain ⟨q2, c2, rfl, _⟩ := hu
      obtain ⟨q3, c3, rfl, _⟩ := ht
      obtain ⟨q4, c4, rfl, _⟩ := hc
      go_enter Try.func25, Try.ntmps25
      go_wp2_with fail
      refine AL.out.mono ?_
      rintro e w1 ⟨rfl, b1⟩
      have B1 := Lib.hid b1
      clear b1
      go_wp2_with fail
      refine (SQ.out _ B1.out).mono ?_
      rintro e w2 ⟨rfl, m, rfl⟩
      go_wp2_with fail
      go_ret2
      exact ⟨rfl, below_drewN B1.out _⟩
    · rw [show pcoV ps qs R f C c = .tuple #[.int .i64 (coT f c ps.length R), .bool true] from if_pos (by rw [ha, hs]; decide)]
      rw [hs] at SQ
      have s9 := sqB_iff.1 hs
      have hCR : C = R := by have := P.sq.rows; have := s9.rows; omega
      subst hCR
      have CO := Lib.hid (fun w' (hb : Below w.heap.size w w') => costS10 C f c ps.length t x w.heap.size w.heap.size w' P.sq s9 A.p.n8 (ht.below hb) (hc.below hb))
      clear ha hs A P s9
      generalize coT f c ps.length C = X at *
      obtain ⟨q1, c1, rfl, _⟩ := hv
      obtain ⟨q2, c2, rfl, _⟩ := hu
      obtain ⟨q3, c3, rfl, _⟩ := ht
      obtain ⟨q4, c4, rfl, _⟩ := hc
      go_enter Try.func25, Try.ntmps25
      go_wp2_with fail
      refine AL.out.mono ?_
      rintro e w1 ⟨rfl, b1⟩
      have B1 := Lib.hid b1
      clear b1
      go_wp2_with fail
      refine (SQ.out _ B1.out).mono ?_
      rintro e w2 ⟨rfl, m, rfl⟩
      go_wp2_with fail
      refine (CO.out (w1.drewN m) (below_drewN B1.out _)).mono ?_
      rintro e w3 ⟨rfl, m2, rfl⟩
      go_wp2_with fail
      go_ret2
      exact ⟨rfl, by first | exact below_drewN B1.out _ | exact below_drewN (below_drewN B1.out _) _⟩
set_option maxRecDepth 100000 in
set_option maxHeartbeats 4000000 in
theorem potS (ps qs us ws : List Int) (C : Nat) (c : Nat → List Int) (v u t y x : Value) (w : World) (hp : ps.length ≤ 1048576) (hq : qs.length ≤ 1048576) (hus : us.length ≤ 1048576) (hws : ws.length ≤ 1048576) (hC : C ≤ 1048576) (hcl : ∀ i, i < C → (c i).length ≤ 1048576) (hv : IntsV w w.heap.size v ps) (hu : IntsV w w.heap.size u qs) (ht : IntsV w w.heap.size t us) (hy : IntsV w w.heap.size y ws) (hc : TabV w w.heap.size x C c) :
    Calls Try.prog 27 #[v, u, t, y, x] w (Gives (potV ps qs us ws C c) w) := by
  have AL := Lib.hid (aliS ps qs v u w.heap.size w.heap.size w hp hq (Nat.le_refl _) (Nat.le_refl _) hv hu)
  have WU := Lib.hid (fun w' (hb : Below w.heap.size w w') => numS us t (ps.length : Int) w.heap.size w' hus (ht.below hb))
  have WW := Lib.hid (fun w' (hb : Below w.heap.size w w') => numS ws y (qs.length : Int) w.heap.size w' hws (hy.below hb))
  have e1 : (fromB (-999) 999 us && decide ((us.length : Int) = (ps.length : Int))) = (decide (us.length = ps.length) && fromB (-999) 999 us) := by
    rw [Bool.and_comm]; congr 1; rw [Bool.eq_iff_iff, decide_eq_true_iff, decide_eq_true_iff]; omega
  have e2 : (fromB (-999) 999 ws && decide ((ws.length : Int) = (qs.length : Int))) = (decide (ws.length = qs.length) && fromB (-999) 999 ws) := by
    rw [Bool.and_comm]; congr 1; rw [Bool.eq_iff_iff, decide_eq_true_iff, decide_eq_true_iff]; omega
  rw [e1] at WU
  rw [e2] at WW
  clear e1 e2
  cases ha : aliB ps qs
  · rw [show potV ps qs us ws C c = .tuple #[.bool false, .bool false] from if_neg (by unfold potOk; rw [ha]; simp)]
    rw [ha] at AL
    clear ha WU WW
    obtain ⟨q1, c1, rfl, _⟩ := hv
    obtain ⟨q2, c2, rfl, _⟩ := hu
    obtain ⟨q3, c3, rfl, _⟩ := ht
    obtain ⟨q4, c4, rfl, _⟩ := hy
    obtain ⟨q5, c5, rfl, _⟩ := hc
    go_enter Try.func27, Try.ntmps27
    go_wp2_with fail
    refine AL.out.mono ?_
    rintro e w1 ⟨rfl, b1⟩
    have B1 := Lib.hid b1
    clear b1
    go_wp2_with fail
    go_ret2
    exact ⟨rfl, B1.out⟩
  rw [ha] at AL
  have A := aliB_iff.1 ha
  have SQ := Lib.hid (fun w' (hb : Below w.heap.size w w') => costsS ps qs C c v u x w.heap.size w.heap.size w.heap.size w' A.len hp hC hcl (hv.below hb) (hu.below hb) (hc.below hb))
  cases hs : sqB C c ps.length 99
  · rw [show potV ps qs us ws C c = .tuple #[.bool false, .bool false] from if_neg (by unfold potOk; rw [ha, hs, Bool.and_false]; simp)]
    rw [hs] at SQ
    clear ha hs A WU WW
    obtain ⟨q1, c1, rfl, _⟩ := hv
    obtain ⟨q2, c2, rfl, _⟩ := hu
    obtain ⟨q3, c3, rfl, _⟩ := ht
    obtain ⟨q4, c4, rfl, _⟩ := hy
    obtain ⟨q5, c5, rfl, _⟩ := hc
    go_enter Try.func27, Try.ntmps27
    go_wp2_with fail
    refine AL.out.mono ?_
    rintro e w1 ⟨rfl, b1⟩
    have B1 := Lib.hid b1
    clear b1
    go_wp2_with fail
    refine (SQ.out _ B1.out).mono ?_
    rintro e w2 ⟨rfl, m2, rfl⟩
    have B2 := Lib.hid (below_drewN B1.out m2)
    obtain ⟨wb2, hwb2⟩ : ∃ x, x = w1.drewN m2 := ⟨_, rfl⟩
    rw [← hwb2] at B2 ⊢
    clear hwb2
    go_wp2_with fail
    go_ret2
    exact ⟨rfl, B2.out⟩
  rw [hs] at SQ
  cases h1 : (decide (us.length = ps.length) && fromB (-999) 999 us)
  · rw [show potV ps qs us ws C c = .tuple #[.bool false, .bool false] from if_neg (by unfold potOk; rw [ha, h1]; simp)]
    rw [h1] at WU
    clear ha h1 A hs WW
    obtain ⟨q1, c1, rfl, _⟩ := hv
    obtain ⟨q2, c2, rfl, _⟩ := hu
    obtain ⟨q3, c3, rfl, _⟩ := ht
    obtain ⟨q4, c4, rfl, _⟩ := hy
    obtain ⟨q5, c5, rfl, _⟩ := hc
    go_enter Try.func27, Try.ntmps27
    go_wp2_with fail
    refine AL.out.mono ?_
    rintro e w1 ⟨rfl, b1⟩
    have B1 := Lib.hid b1
    clear b1
    go_wp2_with fail
    refine (SQ.out _ B1.out).mono ?_
    rintro e w2 ⟨rfl, m2, rfl⟩
    have B2 := Lib.hid (below_drewN B1.out m2)
    obtain ⟨wb2, hwb2⟩ : ∃ x, x = w1.drewN m2 := ⟨_, rfl⟩
    rw [← hwb2] at B2 ⊢
    clear hwb2
    go_wp2_with fail
    refine (WU.out _ B2.out).mono ?_
    rintro e w3 ⟨rfl, m3, rfl⟩
    have B3 := Lib.hid (below_drewN B2.out m3)
    obtain ⟨wb3, hwb3⟩ : ∃ x, x = wb2.drewN m3 := ⟨_, rfl⟩
    rw [← hwb3] at B3 ⊢
    clear hwb3
    go_wp2_with fail
    go_ret2
    exact ⟨rfl, B3.out⟩
  rw [h1] at WU
  cases h2 : (decide (ws.length = qs.length) && fromB (-999) 999 ws)
  · rw [show potV ps qs us ws C c = .tuple #[.bool false, .bool false] from if_neg (by unfold potOk; rw [ha, h1, h2]; simp)]
    rw [h2] at WW
    clear ha h1 h2 hs A
    obtain ⟨q1, c1, rfl, _⟩ := hv
    obtain ⟨q2, c2, rfl, _⟩ := hu
    obtain ⟨q3, c3, rfl, _⟩ := ht
    obtain ⟨q4, c4, rfl, _⟩ := hy
    obtain ⟨q5, c5, rfl, _⟩ := hc
    go_enter Try.func27, Try.ntmps27
    go_wp2_with fail
    refine AL.out.mono ?_
    rintro e w1 ⟨rfl, b1⟩
    have B1 := Lib.hid b1
    clear b1
    go_wp2_with fail
    refine (SQ.out _ B1.out).mono ?_
    rintro e w2 ⟨rfl, m2, rfl⟩
    have B2 := Lib.hid (below_drewN B1.out m2)
    obtain ⟨wb2, hwb2⟩ : ∃ x, x = w1.drewN m2 := ⟨_, rfl⟩
    rw [← hwb2] at B2 ⊢
    clear hwb2
    go_wp2_with fail
    refine (WU.out _ B2.out).mono ?_
    rintro e w3 ⟨rfl, m3, rfl⟩
    have B3 := Lib.hid (below_drewN B2.out m3)
    obtain ⟨wb3, hwb3⟩ : ∃ x, x = wb2.drewN m3 := ⟨_, rfl⟩
    rw [← hwb3] at B3 ⊢
    clear hwb3
    go_wp2_with fail
    refine (WW.out _ B3.out).mono ?_
    rintro e w4 ⟨rfl, m4, rfl⟩
    have B4 := Lib.hid (below_drewN B3.out m4)
    obtain ⟨wb4, hwb4⟩ : ∃ x, x = wb3.drewN m4 := ⟨_, rfl⟩
    rw [← hwb4] at B4 ⊢
    clear hwb4
    go_wp2_with fail
    go_ret2
    exact ⟨rfl, B4.out⟩
  rw [h2] at WW
  have RV := Lib.hid (show potV ps qs us ws C c = .tuple #[.bool (potB us ws C c ps.length), .bool true] from if_pos (by unfold potOk; rw [ha, h1, h2, hs]; rfl))
  rw [RV.out]
  clear RV
  have s9 := sqB_iff.1 hs
  rw [Bool.and_eq_true, decide_eq_true_iff] at h1 h2
  have hCn := s9.rows
  have n8 := A.p.n8
  have lu : us.length = C := by rw [h1.1, hCn]
  have lw : ws.length = ps.length := by rw [h2.1, A.len]
  have UB := Lib.hid (fun i (hi : i < us.length) => from_at h1.2 hi)
  have WB := Lib.hid (fun i (hi : i < ws.length) => from_at h2.2 hi)
  have CL := Lib.hid s9.len
  have CB := Lib.hid s9.bd
  have YES := Lib.hid (fun (h : Pot us ws C c ps.length) => potB_yes h)
  have NO := Lib.hid (fun (h : ¬ Pot us ws C c ps.length) => potB_no h)
  obtain ⟨n, hn⟩ : ∃ n, n = ps.length := ⟨_, rfl⟩
  have HN := Lib.hid hn
  have c8 : C ≤ 8 := by omega
  have lu1 : C ≤ us.length := by omega
  have lu2 : us.length ≤ C := by omega
  have lw1 : n ≤ ws.length := by omega
  have lw2 : ws.length ≤ n := by omega
  have n8' : n ≤ 8 := by omega
  rw [← hn] at YES NO CL CB
  clear ha hs A s9 h1 h2 hCn lu lw hn n8
  obtain ⟨q1, c1, rfl, _⟩ := hv
  obtain ⟨q2, c2, rfl, _⟩ := hu
  obtain ⟨q3, c3, rfl, _, _, _, iu⟩ := ht
  obtain ⟨q4, c4, rfl, _, _, _, iw⟩ := hy
  obtain ⟨q5, c5, rfl, _, _, ic⟩ := hc
  have EU := Lib.hid iu
  have EW := Lib.hid iw
  have EC := Lib.hid ic
  clear iu iw ic
  go_enter Try.func27, Try.ntmps27
  go_wp2_with fail
  refine AL.out.mono ?_
  rintro e w1 ⟨rfl, b1⟩
  have B1 := Lib.hid b1
  clear b1
  go_wp2_with fail
  refine (SQ.out _ B1.out).mono ?_
  rintro e w2 ⟨rfl, m2, rfl⟩
  have B2 := Lib.hid (below_drewN B1.out m2)
  obtain ⟨wb2, hwb2⟩ : ∃ x, x = w1.drewN m2 := ⟨_, rfl⟩
  rw [← hwb2] at B2 ⊢
  clear hwb2
  go_wp2_with fail
  refine (WU.out _ B2.out).mono ?_
  rintro e w3 ⟨rfl, m3, rfl⟩
  have B3 := Lib.hid (below_drewN B2.out m3)
  obtain ⟨wb3, hwb3⟩ : ∃ x, x = wb2.drewN m3 := ⟨_, rfl⟩
  rw [← hwb3] at B3 ⊢
  clear hwb3
  go_wp2_with fail
  refine (WW.out _ B3.out).mono ?_
  rintro e w4 ⟨rfl, m4, rfl⟩
  have B4 := Lib.hid (below_drewN B3.out m4)
  obtain ⟨wb4, hwb4⟩ : ∃ x, x = wb3.drewN m4 := ⟨_, rfl⟩
  rw [← hwb4] at B4 ⊢
  clear hwb4
  go_wp2_with fail
  go_loopg [12] us.length (fun gg i wr => ∃ k : Nat, k ≤ us.length ∧ us.length - k ≤ gg ∧ i = .int .i64 k ∧ Hid (∀ j, j < k → ∀ m, m < n → us.getD j 0 + ws.getD m 0 ≤ (c j).getD m 0) ∧ Hid (Below w.heap.size w wr))
  case atStart => exact ⟨0, Nat.zero_le _, by omega, rfl, Lib.hid (fun j hj => by omega), B4⟩
  case round =>
    clear B4 B1 B2 B3
    obtain ⟨i, hi, hgg, rfl, HL, HB⟩ := hrel
    by_cases hlt : i < us.length
    · have hlc : i < C := by omega
      have j0 : (0 : Int) ≤ (i : Int) := by omega
      have j1 : (i : Int) < (C : Int) := by omega
      have j2 : (i : Int) < (us.length : Int) := by omega
      go_wp2_with fail
      go_loopg [13] ws.length (fun gg j wr => ∃ k : Nat, k ≤ ws.length ∧ ws.length - k ≤ gg ∧ j = .int .i64 k ∧ Hid (∀ m, m < k → us.getD i 0 + ws.getD m 0 ≤ (c i).getD m 0) ∧ Hid (Below w.heap.size w wr))
      case atStart => exact ⟨0, Nat.zero_le _, by omega, rfl, Lib.hid (fun j hj => by omega), HB⟩
      case round =>
        clear HB
        obtain ⟨k, hk, hgg2, rfl, HK, HB⟩ := hrel
        by_cases hlk : k < ws.length
        · have hlkn : k < n := by omega
          obtain ⟨b, off, z, rfl, hb, hc, hz⟩ := EC.out i hlc
          have hcw : wr.cell? ⟨b, off + i, none⟩ = some z := by rw [HB.out.cell (p := ⟨b, off + i, none⟩) hb]; exact hc
          obtain ⟨b1, off1, rfl, hb1, hc1⟩ := EU.out.get (i := i) hlt
          have hcw1 : wr.cell? ⟨b1, off1 + i, none⟩ = some (.int .i64 (us.getD i 0)) := by rw [HB.out.cell (p := ⟨b1, off1 + i, none⟩) hb1]; exact hc1
          have ub := UB.out i hlt
          have cl := CL.out i hlc
          obtain ⟨q6, d6, rfl, _, _, _, ir⟩ := hz
          obtain ⟨b3, off3, rfl, hb3, hc3⟩ := ir.get (i := k) (by rw [cl]; exact hlkn)
          rw [cl] at hcw
          have hcw3 : wr.cell? ⟨b3, off3 + k, none⟩ = some (.int .i64 ((c i).getD k 0)) := by rw [HB.out.cell (p := ⟨b3, off3 + k, none⟩) hb3]; exact hc3
          obtain ⟨b2, off2, rfl, hb2, hc2⟩ := EW.out.get (i := k) hlk
          have hcw2 : wr.cell? ⟨b2, off2 + k, none⟩ = some (.int .i64 (ws.getD k 0)) := by rw [HB.out.cell (p := ⟨b2, off2 + k, none⟩) hb2]; exact hc2
          have wb := WB.out k hlk
          have cb := CB.out i hlc k hlkn
          have k0 : (0 : Int) ≤ (k : Int) := by omega
          have k1 : (k : Int) < (n : Int) := by omega
          have k2 : (k : Int) < (ws.length : Int) := by omega
          have NX : Hid (us.getD i 0 + ws.getD k 0 ≤ (c i).getD k 0 → ∀ m, m < k + 1 → us.getD i 0 + ws.getD m 0 ≤ (c i).getD m 0) := Lib.hid (fun h m hm => by
            rcases Nat.lt_or_ge m k with q | q
            · exact HK.out m q
            · obtain rfl : m = k := by omega
              exact h)
          have N2 := Lib.hid (fun (h : ¬ us.getD i 0 + ws.getD k 0 ≤ (c i).getD k 0) => NO.out (fun p => h (p i hlc k hlkn)))
          obtain ⟨X, hX⟩ : ∃ x, x = us.getD i 0 := ⟨_, rfl⟩
          rw [← hX] at hcw1 ub NX N2
          have XE := Lib.hid hX
          obtain ⟨Y, hY⟩ : ∃ x, x = ws.getD k 0 := ⟨_, rfl⟩
          rw [← hY] at hcw2 wb NX N2
          obtain ⟨Z, hZ⟩ : ∃ x, x = (c i).getD k 0 := ⟨_, rfl⟩
          rw [← hZ] at hcw3 cb NX N2
          have WS : IntKind.i64.wrap (X + Y) = X + Y := IntWalk.i64_in _ (by omega)
          clear hX hY hZ hb2 hb3 hb1 hb hc hc1 hc2 hc3 HK ir cl
          by_cases hle : X + Y ≤ Z
          · have N3 := Lib.hid (NX.out hle)
            have hnl : ¬ Z < X + Y := by omega
            clear NX N2 hle
            go_wp2_with fail
            go_quiet (fail)
            go_wp2_with fail
            go_roundg (ws.length - (k + 1))
            case rel => exact ⟨k + 1, by omega, by omega, by go_num, Lib.hid (by rw [← XE.out]; exact N3.out), by first | exact HB | exact Lib.hid (below_drewN HB.out _)⟩
            case measure => omega
          · have N3 := Lib.hid (N2.out hle)
            have hnl : Z < X + Y := by omega
            clear NX N2 hle
            go_wp2_with fail
            go_quiet (fail)
            go_wp2_with fail
            go_ret2
            exact ⟨by rw [← HN.out, N3.out]; rfl, by first | exact HB.out | exact below_drewN HB.out _⟩
        · have N1 : Hid (∀ j, j < i + 1 → ∀ m, m < n → us.getD j 0 + ws.getD m 0 ≤ (c j).getD m 0) := Lib.hid (fun j hj => by
            rcases Nat.lt_or_ge j i with q | q
            · exact HL.out j q
            · obtain rfl : j = i := by omega
              intro m hm; exact HK.out m (by omega))
          clear HK HL
          go_wp2_with fail
          go_roundg (us.length - (i + 1))
          case rel => exact ⟨i + 1, by omega, by omega, by go_num, N1, HB⟩
          case measure => omega
    · have FIN := Lib.hid (YES.out (fun j hj => HL.out j (by omega)))
      clear HL
      go_wp2_with fail
      go_ret2
      exact ⟨by rw [← HN.out, FIN.out]; rfl, HB.out⟩
end Go.Proofs.Ytligidmkhbcpmab
