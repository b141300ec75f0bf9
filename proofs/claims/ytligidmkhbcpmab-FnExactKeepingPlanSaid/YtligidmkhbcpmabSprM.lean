/- Spreads in the model: whether a list is one, whether two are alike. -/
import Derived.Test.YtligidmkhbcpmabSprP
import Derived.Test.YtligidmkhbcpmabInS
import Derived.Test.YtligidmkhbcpmabLawI
import Derived.Deep.LoopGhost
import Derived.RegionTactic
import Derived.ChangeAlike
import Derived.Deep.RegionHeld3
import Derived.Deep.DeepCutAuto
namespace Go.Proofs.Ytligidmkhbcpmab
open Go.RowKit
set_option linter.unusedVariables false
theorem ret_bS {a b : Bool} (h : a = b) : Ending.returned (.bool b) = .returned (.bool a) := by rw [h]
theorem bl_upS {w a b : World} (h : Hid (Below w.heap.size w a)) (k : Below a.heap.size a b) : Hid (Below w.heap.size w b) := Lib.hid (h.out.trans (k.mono h.out.size))
set_option maxHeartbeats 2000000 in
theorem sumS (zs : List Int) (v : Value) (B : Nat) (w : World) (hn : zs.length ≤ 1048576) (hb : ∀ i, i < zs.length → -1000000000 ≤ zs.getD i 0 ∧ zs.getD i 0 ≤ 1000000000) (h : IntsV w B v zs) :
    Calls Try.prog 66 #[v] w fun e w' => e = .returned (.int .i64 (smT zs zs.length)) ∧ w = w' := by
  obtain ⟨q, cq, rfl, lq, mq, zq, iq⟩ := h
  have E1 := Lib.hid iq
  have BD := Lib.hid hb
  have SB := Lib.hid (fun k hk => smT_bd (zs := zs) (B := 1000000000) (fun i hi => by have := hb i hi; omega) k hk)
  have ST := Lib.hid (fun k => show smT zs (k + 1) = smT zs k + zs.getD k 0 from rfl)
  clear iq zq mq lq hb
  go_enter Try.func66, Try.ntmps66
  go_wp2
  go_loopg [3, 4] zs.length (fun gg s i wr => ∃ k : Nat, k ≤ zs.length ∧ zs.length - k ≤ gg ∧ i = .int .i64 k ∧ s = .int .i64 (smT zs k) ∧ wr = w)
  case atStart => exact ⟨0, Nat.zero_le _, by omega, rfl, rfl, rfl⟩
  case round =>
    obtain ⟨k, hk, hgg, rfl, rfl, rfl⟩ := hrel
    by_cases hlt : k < zs.length
    · obtain ⟨b, off, rfl, hb, hc⟩ := E1.out.get hlt
      have i0 : (0 : Int) ≤ (k : Int) := by omega
      have i1 : (k : Int) < (zs.length : Int) := by omega
      have sb := SB.out k hk
      have zb := BD.out k hlt
      have st := Lib.hid (ST.out k)
      have kb : k * 1000000000 ≤ 1048576000000000 := by omega
      obtain ⟨z, hz⟩ : ∃ z, z = zs.getD k 0 := ⟨_, rfl⟩
      rw [← hz] at hc st zb
      obtain ⟨s, hs⟩ : ∃ s, s = smT zs k := ⟨_, rfl⟩
      rw [← hs] at sb st ⊢
      have sb1 : -1048576000000000 ≤ s ∧ s ≤ 1048576000000000 := by omega
      clear hz hs sb kb
      go_wp2_with fail
      go_roundg (zs.length - (k + 1))
      case rel => exact ⟨k + 1, by omega, by omega, by go_num, by rw [st.out], rfl⟩
      case measure => omega
    · have hkz : k = zs.length := by omega
      have FIN := Lib.hid (show smT zs k = smT zs zs.length by rw [hkz])
      clear hkz
      go_wp2_with fail
      go_ret
      exact ⟨by rw [FIN.out]; rfl, rfl⟩
set_option maxRecDepth 100000 in
set_option maxHeartbeats 2000000 in
theorem rowNS (zs : List Int) (v : Value) (n : Int) (B : Nat) (w : World) (hn : zs.length ≤ 1048576) (h : IntsV w B v zs) :
    Calls Try.prog 67 #[v, .int .i64 n] w fun e w' => e = .returned (.bool (fromB 0 40 zs && decide ((zs.length : Int) = n))) ∧ ∃ m, w' = w.drewN m := by
  obtain ⟨q, cq, rfl, lq, mq, zq, iq⟩ := h
  have E1 := Lib.hid iq
  have YES := Lib.hid (fun h => from_yes (lo := 0) (hi := 40) (zs := zs) h)
  have NO := Lib.hid (fun k hk h => show (fromB 0 40 zs && decide ((zs.length : Int) = n)) = false by rw [from_no (lo := 0) (hi := 40) (zs := zs) (i := k) hk h, Bool.false_and])
  clear iq zq mq lq
  go_enter Try.func67, Try.ntmps67
  go_wp2_with fail
  go_loopg [5] zs.length (fun gg i wr => ∃ k : Nat, k ≤ zs.length ∧ zs.length - k ≤ gg ∧ i = .int .i64 k ∧ Hid (∀ j, j < k → 0 ≤ zs.getD j 0 ∧ zs.getD j 0 ≤ 40) ∧ ∃ n, wr = w.drewN n)
  case atStart => exact ⟨0, Nat.zero_le _, by omega, rfl, Lib.hid (fun j hj => by omega), 0, rfl⟩
  case round =>
    obtain ⟨k, hk, hgg, rfl, HA, n1, rfl⟩ := hrel
    by_cases hlt : k < zs.length
    · obtain ⟨b, off, rfl, hb, hc⟩ := E1.out.get hlt
      have hcw : (w.drewN n1).cell? ⟨b, off + k, none⟩ = some (.int .i64 (zs.getD k 0)) := hc
      have i0 : (0 : Int) ≤ (k : Int) := by omega
      have i1 : (k : Int) < (zs.length : Int) := by omega
      have NO2 := Lib.hid (NO.out k hlt)
      have NX : Hid (0 ≤ zs.getD k 0 ∧ zs.getD k 0 ≤ 40 → ∀ j, j < k + 1 → 0 ≤ zs.getD j 0 ∧ zs.getD j 0 ≤ 40) := Lib.hid (fun h j hj => by
        rcases Nat.lt_or_ge j k with h' | h'
        · exact HA.out j h'
        · obtain rfl : j = k := by omega
          exact h)
      obtain ⟨z, hz⟩ : ∃ z, z = zs.getD k 0 := ⟨_, rfl⟩
      rw [← hz] at hcw NO2 NX
      clear hc hz HA
      by_cases hin : 0 ≤ z ∧ z ≤ 40
      · have I := Lib.hid (fun w => inS_true z 0 40 w hin)
        have N2 := Lib.hid (NX.out hin)
        clear NX NO2 hin
        go_wp2_with fail
        refine (I.out _).mono ?_
        rintro e w1 ⟨rfl, rfl⟩
        go_wp2_with fail
        go_roundg (zs.length - (k + 1))
        case rel => exact ⟨k + 1, by omega, by omega, by go_num, N2, _, rfl⟩
        case measure => omega
      · have I := Lib.hid (fun w => inS_false z 0 40 w hin)
        have N2 := Lib.hid (NO2.out hin)
        clear NX NO2 hin
        go_wp2_with fail
        refine (I.out _).mono ?_
        rintro e w1 ⟨rfl, rfl⟩
        go_wp2_with fail
        go_ret
        exact ⟨ret_bS N2.out, _, rfl⟩
    · have R := Lib.hid (show (fromB 0 40 zs && decide ((zs.length : Int) = n)) = decide ((zs.length : Int) = n) by rw [YES.out (fun i hi => HA.out i (by omega)), Bool.true_and])
      clear HA
      by_cases he : (zs.length : Int) = n
      · subst he
        have R2 := Lib.hid (show fromB 0 40 zs = true by have := R.out; rwa [decide_eq_true rfl, Bool.and_true] at this)
        clear R
        go_wp2_with fail
        go_ret
        exact ⟨by first | (rw [R2.out]; rfl) | (rw [R2.out]; simp), _, rfl⟩
      · have hlb : ((zs.length : Int) == n) = false := by simpa using he
        have R2 := Lib.hid (show (fromB 0 40 zs && decide ((zs.length : Int) = n)) = false by rw [R.out, decide_eq_false he])
        clear R he
        go_wp2_with fail
        go_ret
        exact ⟨ret_bS R2.out, _, rfl⟩
set_option maxRecDepth 100000 in
set_option maxHeartbeats 2000000 in
theorem sprS (zs : List Int) (v : Value) (B : Nat) (w : World) (hn : zs.length ≤ 1048576) (h : IntsV w B v zs) :
    Calls Try.prog 65 #[v] w (Gives (.bool (sprB zs)) w) := by
  have I8 := Lib.hid (fun w => inS (zs.length : Int) 1 8 w)
  by_cases h8 : 1 ≤ zs.length ∧ zs.length ≤ 8
  · have E8 : decide ((1 : Int) ≤ (zs.length : Int) ∧ (zs.length : Int) ≤ 8) = true := by rw [decide_eq_true_iff]; omega
    rw [E8] at I8
    have AF := Lib.hid (fun m => rowNS zs v (zs.length : Int) B (w.drewN m) hn (h.drewN m))
    have e1 : (fromB 0 40 zs && decide ((zs.length : Int) = (zs.length : Int))) = fromB 0 40 zs := by rw [decide_eq_true rfl, Bool.and_true]
    rw [e1] at AF
    cases hf : fromB 0 40 zs
    · have R := Lib.hid (show sprB zs = false by unfold sprB; rw [hf, Bool.false_and, Bool.and_false])
      rw [hf] at AF
      obtain ⟨q, cq, rfl, _⟩ := h
      clear hf h8 E8 e1
      go_enter Try.func65, Try.ntmps65
      go_wp2_with fail
      refine (I8.out _).mono ?_
      rintro e w1 ⟨rfl, rfl⟩
      go_wp2_with fail
      refine (AF.out 0).mono ?_
      rintro e w2 ⟨rfl, m, rfl⟩
      go_wp2_with fail
      go_ret
      exact ⟨ret_bS R.out, below_drewN (Below.refl _ _) _⟩
    · have BD : ∀ i, i < zs.length → 0 ≤ zs.getD i 0 ∧ zs.getD i 0 ≤ 40 := fun i hi => from_at hf hi
      have TT := Lib.hid (fun m => sumS zs v B (w.drewN m) hn (fun i hi => by have := BD i hi; omega) (h.drewN m))
      have I40 := Lib.hid (fun w => inS (smT zs zs.length) 1 40 w)
      have R := Lib.hid (show sprB zs = decide (1 ≤ smT zs zs.length ∧ smT zs zs.length ≤ 40) by unfold sprB; rw [hf, Bool.true_and, decide_eq_true h8, Bool.true_and])
      generalize decide (1 ≤ smT zs zs.length ∧ smT zs zs.length ≤ 40) = bb at *
      generalize smT zs zs.length = S at *
      rw [hf] at AF
      obtain ⟨q, cq, rfl, _⟩ := h
      clear hf h8 E8 BD e1
      go_enter Try.func65, Try.ntmps65
      go_wp2_with fail
      refine (I8.out _).mono ?_
      rintro e w1 ⟨rfl, rfl⟩
      go_wp2_with fail
      refine (AF.out 0).mono ?_
      rintro e w2 ⟨rfl, m, rfl⟩
      go_wp2_with fail
      refine (TT.out _).mono ?_
      rintro e w3 ⟨rfl, rfl⟩
      go_wp2_with fail
      refine (I40.out _).mono ?_
      rintro e w4 ⟨rfl, rfl⟩
      go_wp2_with fail
      go_ret
      exact ⟨ret_bS R.out, below_drewN (Below.refl _ _) _⟩
  · have E8 : decide ((1 : Int) ≤ (zs.length : Int) ∧ (zs.length : Int) ≤ 8) = false := by rw [decide_eq_false_iff_not]; omega
    rw [E8] at I8
    have R := Lib.hid (show sprB zs = false by unfold sprB; rw [decide_eq_false h8, Bool.false_and])
    obtain ⟨q, cq, rfl, _⟩ := h
    clear h8 E8
    go_enter Try.func65, Try.ntmps65
    go_wp2_with fail
    refine (I8.out _).mono ?_
    rintro e w1 ⟨rfl, rfl⟩
    go_wp2_with fail
    go_ret
    exact ⟨ret_bS R.out, Below.refl _ _⟩
set_option maxRecDepth 100000 in
set_option maxHeartbeats 2000000 in
theorem aliS (ps qs : List Int) (v u : Value) (B C : Nat) (w : World) (hp : ps.length ≤ 1048576) (hq : qs.length ≤ 1048576) (hB : B ≤ w.heap.size) (hC : C ≤ w.heap.size) (hv : IntsV w B v ps) (hu : IntsV w C u qs) :
    Calls Try.prog 39 #[v, u] w (Gives (.bool (aliB ps qs)) w) := by
  have SP := Lib.hid (fun w' (hb : Below w.heap.size w w') => sprS ps v B w' hp (hv.below (hb.mono hB)))
  have SQ := Lib.hid (fun w' (hb : Below w.heap.size w w') => sprS qs u C w' hq (hu.below (hb.mono hC)))
  unfold aliB
  cases h1 : sprB ps
  · rw [h1] at SP
    obtain ⟨q1, c1, rfl, _⟩ := hv
    obtain ⟨q2, c2, rfl, _⟩ := hu
    clear h1
    go_enter Try.func39, Try.ntmps39
    go_wp2_with fail
    refine (SP.out _ (Below.refl _ _)).mono ?_
    rintro e w1 ⟨rfl, b1⟩
    have B1 := Lib.hid b1
    clear b1
    go_wp2_with fail
    go_ret
    exact ⟨rfl, B1.out⟩
  · rw [h1] at SP
    cases h2 : sprB qs
    · rw [h2] at SQ
      obtain ⟨q1, c1, rfl, _⟩ := hv
      obtain ⟨q2, c2, rfl, _⟩ := hu
      clear h1 h2
      go_enter Try.func39, Try.ntmps39
      go_wp2_with fail
      refine (SP.out _ (Below.refl _ _)).mono ?_
      rintro e w1 ⟨rfl, b1⟩
      have B1 := Lib.hid b1
      clear b1
      go_wp2_with fail
      refine (SQ.out _ B1.out).mono ?_
      rintro e w2 ⟨rfl, b2⟩
      have B2 := bl_upS B1 b2
      clear b2
      go_wp2_with fail
      go_ret
      exact ⟨rfl, B2.out⟩
    · rw [h2] at SQ
      have s1 := sprB_iff.1 h1
      have s2 := sprB_iff.1 h2
      have T1 := Lib.hid (fun w' (hb : Below w.heap.size w w') => sumS ps v B w' hp (fun i hi => by have := s1.bd i hi; omega) (hv.below (hb.mono hB)))
      have T2 := Lib.hid (fun w' (hb : Below w.heap.size w w') => sumS qs u C w' hq (fun i hi => by have := s2.bd i hi; omega) (hu.below (hb.mono hC)))
      have g1 := s1.sm (Nat.le_refl _)
      have g2 := s2.sm (Nat.le_refl _)
      generalize smT ps ps.length = S1 at *
      generalize smT qs qs.length = S2 at *
      obtain ⟨q1, c1, rfl, _⟩ := hv
      obtain ⟨q2, c2, rfl, _⟩ := hu
      clear h1 h2 s1 s2
      by_cases hl : ps.length = qs.length
      · have hlb : ((ps.length : Int) == (qs.length : Int)) = true := by rw [beq_iff_eq]; omega
        have R := Lib.hid (show ((true && true) && (decide (ps.length = qs.length) && decide (S1 = S2))) = decide (S1 = S2) by rw [decide_eq_true hl]; rfl)
        clear hl
        go_enter Try.func39, Try.ntmps39
        go_wp2_with fail
        refine (SP.out _ (Below.refl _ _)).mono ?_
        rintro e w1 ⟨rfl, b1⟩
        have B1 := Lib.hid b1
        clear b1
        go_wp2_with fail
        refine (SQ.out _ B1.out).mono ?_
        rintro e w2 ⟨rfl, b2⟩
        have B2 := bl_upS B1 b2
        clear b2
        go_wp2_with fail
        refine (T1.out _ B2.out).mono ?_
        rintro e w3 ⟨rfl, rfl⟩
        go_wp2_with fail
        refine (T2.out _ B2.out).mono ?_
        rintro e w4 ⟨rfl, rfl⟩
        go_wp2_with fail
        go_ret
        exact ⟨by rw [R.out]; rfl, B2.out⟩
      · have hlb : ((ps.length : Int) == (qs.length : Int)) = false := by rw [beq_eq_false_iff_ne]; omega
        have R := Lib.hid (show ((true && true) && (decide (ps.length = qs.length) && decide (S1 = S2))) = false by rw [decide_eq_false hl]; rfl)
        clear hl
        go_enter Try.func39, Try.ntmps39
        go_wp2_with fail
        refine (SP.out _ (Below.refl _ _)).mono ?_
        rintro e w1 ⟨rfl, b1⟩
        have B1 := Lib.hid b1
        clear b1
        go_wp2_with fail
        refine (SQ.out _ B1.out).mono ?_
        rintro e w2 ⟨rfl, b2⟩
        have B2 := bl_upS B1 b2
        clear b2
        go_wp2_with fail
        go_ret
        exact ⟨by rw [R.out]; rfl, B2.out⟩
end Go.Proofs.Ytligidmkhbcpmab
