/- Laws of offers: whether a list is one, its total and its mean, in the model. -/
import Derived.Test.YtnpiciabpgkiiaaL7V
import Derived.Test.YtnpiciabpgkiiaaInS
import Derived.Test.YtnpiciabpgkiiaaFracK
import Derived.Deep.LoopGhost
namespace Go.Proofs.Ytnpiciabpgkiiaa
open Go.RowKit
set_option linter.unusedVariables false
set_option maxRecDepth 100000 in
set_option maxHeartbeats 2000000 in
theorem lawS (zs : List Int) (v : Value) (B : Nat) (w : World) (hn : zs.length ≤ 1048576) (h : IntsV w B v zs) :
    Calls Try.prog 46 #[v] w (Gives (.bool (lawB zs)) w) := by
  obtain ⟨q, cq, rfl, lq, mq, zq, iq⟩ := h
  have E1 := Lib.hid iq
  have SBD := Lib.hid (fun k (hk : k ≤ zs.length) (hA : ∀ j, j < k → 0 ≤ zs.getD j 0 ∧ zs.getD j 0 ≤ 5) => show 0 ≤ smT zs k ∧ smT zs k ≤ ((k * 5 : Nat) : Int) from by
    have : ∀ j, j ≤ k → 0 ≤ smT zs j ∧ smT zs j ≤ ((j * 5 : Nat) : Int) := by
      intro j
      induction j with
      | zero => intro _; simp [smT]
      | succ j ih => intro hj; have a := ih (by omega); have b := hA j (by omega); simp only [smT]; omega
    exact this k (Nat.le_refl _))
  have ST := Lib.hid (fun k => show smT zs (k + 1) = smT zs k + zs.getD k 0 from rfl)
  have YES := Lib.hid (fun h => allV_yes (zs := zs) h)
  have NO := Lib.hid (fun k hk h => show lawB zs = false by unfold lawB; rw [allV_no (zs := zs) (i := k) hk h, Bool.false_and, Bool.and_false])
  have D : Hid (lawB zs = (decide (1 ≤ zs.length ∧ zs.length ≤ 5) && (zs.all inV && decide (0 < smT zs zs.length)))) := Lib.hid rfl
  have I5 := Lib.hid (fun w => inS (zs.length : Int) 1 5 w)
  have I5E := Lib.hid (show decide ((1 : Int) ≤ (zs.length : Int) ∧ (zs.length : Int) ≤ 5) = decide (1 ≤ zs.length ∧ zs.length ≤ 5) by rw [Bool.eq_iff_iff, decide_eq_true_iff, decide_eq_true_iff]; omega)
  rw [I5E.out] at I5
  clear iq zq mq lq I5E
  go_enter Try.func46, Try.ntmps46
  go_wp2_with fail
  go_loopg [3, 4] zs.length (fun gg s i wr => ∃ k : Nat, k ≤ zs.length ∧ zs.length - k ≤ gg ∧ i = .int .i64 k ∧ s = .int .i64 (smT zs k) ∧ Hid (∀ j, j < k → 0 ≤ zs.getD j 0 ∧ zs.getD j 0 ≤ 5) ∧ ∃ n, wr = w.drewN n)
  case atStart => exact ⟨0, Nat.zero_le _, by omega, rfl, rfl, Lib.hid (fun j hj => by omega), 0, rfl⟩
  case round =>
    obtain ⟨k, hk, hgg, rfl, rfl, HA, n, rfl⟩ := hrel
    have sb := SBD.out k hk HA.out
    have kb : k * 5 ≤ 5242880 := by omega
    by_cases hlt : k < zs.length
    · obtain ⟨b, off, rfl, hb, hc⟩ := E1.out.get hlt
      have hcw : (w.drewN n).cell? ⟨b, off + k, none⟩ = some (.int .i64 (zs.getD k 0)) := hc
      have i0 : (0 : Int) ≤ (k : Int) := by omega
      have i1 : (k : Int) < (zs.length : Int) := by omega
      have NO2 := Lib.hid (NO.out k hlt)
      have st := Lib.hid (ST.out k)
      have NX : Hid (0 ≤ zs.getD k 0 ∧ zs.getD k 0 ≤ 5 → ∀ j, j < k + 1 → 0 ≤ zs.getD j 0 ∧ zs.getD j 0 ≤ 5) := Lib.hid (fun h j hj => by
        rcases Nat.lt_or_ge j k with h' | h'
        · exact HA.out j h'
        · obtain rfl : j = k := by omega
          exact h)
      obtain ⟨z, hz⟩ : ∃ z, z = zs.getD k 0 := ⟨_, rfl⟩
      rw [← hz] at hcw NO2 NX st
      obtain ⟨s, hs⟩ : ∃ s, s = smT zs k := ⟨_, rfl⟩
      rw [← hs] at sb st ⊢
      have sb1 : 0 ≤ s ∧ s ≤ 5242880 := by omega
      clear hc hz HA hs sb kb
      by_cases hin : 0 ≤ z ∧ z ≤ 5
      · have I := Lib.hid (fun w => inS_true z 0 5 w hin)
        have N2 := Lib.hid (NX.out hin)
        obtain ⟨hi0, hi5⟩ := hin
        clear NX NO2
        go_wp2_with fail
        refine (I.out _).mono ?_
        rintro e w1 ⟨rfl, rfl⟩
        go_wp2_with fail
        go_roundg (zs.length - (k + 1))
        case rel => exact ⟨k + 1, by omega, by omega, by go_num, by rw [st.out], N2, _, rfl⟩
        case measure => omega
      · have I := Lib.hid (fun w => inS_false z 0 5 w hin)
        have N2 := Lib.hid (NO2.out hin)
        clear NX NO2 hin
        go_wp2_with fail
        refine (I.out _).mono ?_
        rintro e w1 ⟨rfl, rfl⟩
        go_wp2_with fail
        go_ret
        exact ⟨by rw [N2.out]; rfl, below_drewN (Below.refl _ _) n⟩
    · have hkz : k = zs.length := by omega
      have R := Lib.hid (show lawB zs = (decide (1 ≤ zs.length ∧ zs.length ≤ 5) && decide (0 < smT zs k)) by rw [D.out, YES.out (fun i hi => HA.out i (by omega)), Bool.true_and, hkz])
      have sb1 : 0 ≤ smT zs k ∧ smT zs k ≤ 5242880 := by omega
      generalize smT zs k = s at *
      generalize decide (1 ≤ zs.length ∧ zs.length ≤ 5) = b5 at *
      clear HA hkz sb kb
      cases b5
      · go_wp2_with fail
        refine (I5.out _).mono ?_
        rintro e w1 ⟨rfl, rfl⟩
        go_wp2_with fail
        go_ret
        exact ⟨by rw [R.out]; rfl, below_drewN (Below.refl _ _) n⟩
      · go_wp2_with fail
        refine (I5.out _).mono ?_
        rintro e w1 ⟨rfl, rfl⟩
        go_wp2_with fail
        go_ret
        exact ⟨by rw [R.out]; rfl, below_drewN (Below.refl _ _) n⟩
set_option maxHeartbeats 2000000 in
theorem totSQ (zs : List Int) (v : Value) (B : Nat) (w : World) (hn : zs.length ≤ 1048576) (hb : ∀ i, i < zs.length → -1000000000 ≤ zs.getD i 0 ∧ zs.getD i 0 ≤ 1000000000) (h : IntsV w B v zs) :
    Calls Try.prog 76 #[v] w fun e w' => e = .returned (.int .i64 (smT zs zs.length)) ∧ w = w' := by
  obtain ⟨q, cq, rfl, lq, mq, zq, iq⟩ := h
  have E1 := Lib.hid iq
  have BD := Lib.hid hb
  have SB := Lib.hid (fun k hk => smT_bd (zs := zs) (B := 1000000000) (fun i hi => by have := hb i hi; omega) k hk)
  have ST := Lib.hid (fun k => show smT zs (k + 1) = smT zs k + zs.getD k 0 from rfl)
  clear iq zq mq lq hb
  go_enter Try.func76, Try.ntmps76
  go_wp2
  go_loopg [3, 4] zs.length (fun gg s i wr => ∃ k : Nat, k ≤ zs.length ∧ zs.length - k ≤ gg ∧ i = .int .i64 k ∧ s = .int .i64 (smT zs k) ∧ wr = w)
  case atStart => exact ⟨0, Nat.zero_le _, by omega, rfl, rfl, rfl⟩
  case round =>
    obtain ⟨k, hk, hgg, rfl, rfl, rfl⟩ := hrel
    by_cases hlt : k < zs.length
    · obtain ⟨b, off, rfl, hb, hc⟩ := E1.out.get hlt
      have i0 : (0 : Int) ≤ (k : Int) := by omega
      have i1 : (k : Int) < (zs.length : Int) := by omega
      have sb := SB.out k hk
      have zb := BD.out k hlt
      have st := Lib.hid (ST.out k)
      have kb : k * 1000000000 ≤ 1048576000000000 := by omega
      obtain ⟨z, hz⟩ : ∃ z, z = zs.getD k 0 := ⟨_, rfl⟩
      rw [← hz] at hc st zb
      obtain ⟨s, hs⟩ : ∃ s, s = smT zs k := ⟨_, rfl⟩
      rw [← hs] at sb st ⊢
      have sb1 : -1048576000000000 ≤ s ∧ s ≤ 1048576000000000 := by omega
      clear hz hs sb kb
      go_wp2_with fail
      go_roundg (zs.length - (k + 1))
      case rel => exact ⟨k + 1, by omega, by omega, by go_num, by rw [st.out], rfl⟩
      case measure => omega
    · have hkz : k = zs.length := by omega
      have FIN := Lib.hid (show smT zs k = smT zs zs.length by rw [hkz])
      clear hkz
      go_wp2_with fail
      go_ret
      exact ⟨by rw [FIN.out]; rfl, rfl⟩
theorem totS (zs : List Int) (v : Value) (B : Nat) (w : World) (hn : zs.length ≤ 1048576) (hb : ∀ i, i < zs.length → -1000000000 ≤ zs.getD i 0 ∧ zs.getD i 0 ≤ 1000000000) (h : IntsV w B v zs) :
    Calls Try.prog 76 #[v] w (Gives (.int .i64 (smT zs zs.length)) w) :=
  (totSQ zs v B w hn hb h).mono fun _ _ ⟨he, hw⟩ => ⟨he, by rw [hw]; exact Below.refl _ _⟩
set_option maxRecDepth 100000 in
set_option maxHeartbeats 2000000 in
theorem valMeanS (zs : List Int) (v : Value) (w : World) (hn : zs.length ≤ 5) (hb : ∀ i, i < zs.length → 0 ≤ zs.getD i 0 ∧ zs.getD i 0 ≤ 1000000) (hp : 0 < smT zs zs.length) (h : IntsV w w.heap.size v zs) :
    Calls Try.prog 52 #[v] w (Gives (.agg #[.int .i64 (cutN (moT zs zs.length) (smT zs zs.length)), .int .i64 (cutD (moT zs zs.length) (smT zs zs.length))]) w) := by
  have TOT := Lib.hid (fun w' (hb' : Below w.heap.size w w') => totS zs v w.heap.size w' (by omega) (fun i hi => by have := hb i hi; omega) (h.below hb'))
  have sb := smT_bd (zs := zs) (B := 1000000) (fun i hi => by have := hb i hi; omega) zs.length (Nat.le_refl _)
  have mb := moT_bd (zs := zs) (B := 1000000) (N := 5) hn (fun i hi => hb i hi) zs.length (Nat.le_refl _)
  have RD := Lib.hid (fun w => cutS (moT zs zs.length) (smT zs zs.length) w (by omega) (by omega))
  obtain ⟨p, hp2⟩ : ∃ p, p = cutN (moT zs zs.length) (smT zs zs.length) := ⟨_, rfl⟩
  obtain ⟨d, hd⟩ : ∃ d, d = cutD (moT zs zs.length) (smT zs zs.length) := ⟨_, rfl⟩
  rw [← hp2, ← hd] at RD ⊢
  obtain ⟨q0, cq, rfl, lq, mq, zq, iq⟩ := h
  have E1 := Lib.hid iq
  have BD := Lib.hid hb
  have MB := Lib.hid (fun k hk => moT_bd (zs := zs) (B := 1000000) (N := 5) hn (fun i hi => hb i hi) k hk)
  have MT := Lib.hid (fun k => show moT zs (k + 1) = moT zs k + (k : Int) * zs.getD k 0 from rfl)
  have HN := Lib.hid hn
  have B0 := Lib.hid (bl_self w (.cells #[.int .i64 0, .int .i64 0] 26))
  have BX := Lib.hid ((Below.refl w.heap.size w).alloc (Nat.le_refl _) (.cells #[.int .i64 0, .int .i64 0] 26))
  have RC := Lib.hid (fun w3 b => rs_cells (w := w) (w3 := w3) b)
  have RF := Lib.hid (fun w3 x y b => rs_fin (w := w) (w3 := w3) (x := x) (y := y) b)
  have LN := Lib.hid (show zs.length ≤ 1048576 by omega)
  generalize smT zs zs.length = S at *
  clear iq zq mq lq hb hp2 hd sb mb hp
  obtain ⟨wa, hwa⟩ : ∃ wa, wa = w.alloc (.cells #[.int .i64 0, .int .i64 0] 26) := ⟨_, rfl⟩
  rw [← hwa] at B0 BX RC RF
  go_enter Try.func52, Try.ntmps52
  go_wp2_with fail
  rw [← hwa]
  clear hwa
  go_loopg [3, 4] zs.length (fun gg s i wr => ∃ k : Nat, k ≤ zs.length ∧ zs.length - k ≤ gg ∧ i = .int .i64 k ∧ s = .int .i64 (moT zs k) ∧ Hid (Below wa.heap.size wa wr))
  case atStart => exact ⟨0, Nat.zero_le _, by omega, rfl, rfl, B0⟩
  case round =>
    clear B0
    obtain ⟨k, hk, hgg, rfl, rfl, HB⟩ := hrel
    by_cases hlt : k < zs.length
    · obtain ⟨b, off, rfl, hb, hc⟩ := E1.out.get hlt
      have hcw : wr.cell? ⟨b, off + k, none⟩ = some (.int .i64 (zs.getD k 0)) := by rw [(BX.out.trans (HB.out.mono BX.out.size)).cell (p := ⟨b, off + k, none⟩) hb]; exact hc
      have i0 : (0 : Int) ≤ (k : Int) := by omega
      have i1 : (k : Int) < (zs.length : Int) := by omega
      have i5 : (k : Int) ≤ 5 := by have := HN.out; omega
      have kb : k * (5 * 1000000) ≤ 25000000 := by have := HN.out; omega
      have mb := MB.out k hk
      have zb := BD.out k hlt
      have mt := Lib.hid (MT.out k)
      have pb0 : 0 ≤ (k : Int) * zs.getD k 0 := Int.mul_nonneg i0 zb.1
      have pb1 : (k : Int) * zs.getD k 0 ≤ 5 * 1000000 := Int.mul_le_mul i5 zb.2 zb.1 (by omega)
      have WR : IntKind.i64.wrap ((k : Int) * zs.getD k 0) = (k : Int) * zs.getD k 0 := IntWalk.i64_in _ (by omega)
      obtain ⟨z, hz⟩ : ∃ z, z = zs.getD k 0 := ⟨_, rfl⟩
      rw [← hz] at hcw mt zb pb0 pb1 WR
      obtain ⟨s, hs⟩ : ∃ s, s = moT zs k := ⟨_, rfl⟩
      rw [← hs] at mb mt ⊢
      have mb1 : 0 ≤ s ∧ s ≤ 25000000 := by omega
      have HB1 := Lib.hid (below_drewN HB.out 1)
      clear hc hz hs mb kb
      go_wp2_with fail
      go_roundg (zs.length - (k + 1))
      case rel => exact ⟨k + 1, by omega, by omega, by go_num, by rw [mt.out], by first | exact HB | exact Lib.hid (below_drew HB.out)⟩
      case measure => omega
    · have hkz : k = zs.length := by omega
      have FIN := Lib.hid (show moT zs k = moT zs zs.length by rw [hkz])
      rw [FIN.out]
      clear hkz FIN
      generalize moT zs zs.length = M at *
      go_wp2_with fail
      refine (TOT.out _ (BX.out.trans (HB.out.mono BX.out.size))).mono ?_
      rintro e w1 ⟨rfl, b1⟩
      have HB1 := Lib.hid (HB.out.trans (b1.mono HB.out.size))
      clear b1
      go_wp2_with fail
      refine (RD.out _).mono ?_
      rintro e w2 ⟨rfl, b2⟩
      have HB2 := Lib.hid (HB1.out.trans (b2.mono HB1.out.size))
      clear b2
      obtain ⟨⟨x0, y0⟩, x1, y1⟩ := RC.out _ HB2.out
      go_wp2_with fail
      refine bodyPost_ret (v := .agg #[.int .i64 p, .int .i64 d]) (by simp [results, Try.results52, go_sem, x0, x1]) rfl ⟨rfl, ?_⟩
      exact RF.out _ _ _ HB2.out
set_option maxHeartbeats 2000000 in
theorem isLawS (zs : List Int) (v : Value) (w : World) (hn : zs.length ≤ 1048576) (h : IntsV w w.heap.size v zs) :
    Calls Try.prog 12 #[v] w (Gives (.bool (lawB zs)) w) := by
  have L := Lib.hid (lawS zs v w.heap.size w hn h)
  obtain ⟨q0, cq, rfl, _⟩ := h
  go_enter Try.func12, Try.ntmps12
  go_wp2_with fail
  refine L.out.mono ?_
  rintro e w1 ⟨rfl, b1⟩
  have B1 := Lib.hid b1
  clear b1
  go_wp2_with fail
  go_ret
  exact ⟨rfl, B1.out⟩
set_option maxRecDepth 100000 in
set_option maxHeartbeats 2000000 in
theorem lawMeanS (zs : List Int) (v : Value) (w : World) (hn : zs.length ≤ 1048576) (h : IntsV w w.heap.size v zs) :
    Calls Try.prog 16 #[v] w (Gives (lawMeanV zs) w) := by
  have IL := Lib.hid (fun w' (hb : Below w.heap.size w w') => lawS zs v w.heap.size w' hn (h.below hb))
  have B0 := Lib.hid (bl_self w (.cells #[.int .i64 0, .int .i64 0] 26))
  cases hl : lawB zs
  · rw [show lawMeanV zs = .tuple #[.agg #[.int .i64 0, .int .i64 0], .bool false] from if_neg (by rw [hl]; decide)]
    rw [hl] at IL
    obtain ⟨q0, cq, rfl, _⟩ := h
    clear hl
    go_enter Try.func16, Try.ntmps16
    go_wp2_with fail
    refine (IL.out _ (bl_up B0.out)).mono ?_
    rintro e w1 ⟨rfl, b1⟩
    have B1 := Lib.hid (bl_then B0.out b1)
    clear b1
    obtain ⟨⟨x0, y0⟩, x1, y1⟩ := rs_cells B1.out
    go_wp2_with fail
    refine bodyPost_ret (v := .tuple #[.agg #[.int .i64 0, .int .i64 0], .bool false]) (by simp [results, Try.results16, go_sem, x0, x1]) rfl ⟨rfl, ?_⟩
    exact rs_fin B1.out
  · have L := lawB_iff.1 hl
    have VM := Lib.hid (fun w' (hb : Below w.heap.size w w') => valMeanS zs v w' L.n5 (fun i hi => by have := L.bd i hi; omega) L.pos ((h.below hb).more hb.size))
    have KP := Lib.hid (fun w => keptS_cut (a := moT zs zs.length) (b := smT zs zs.length) w L.pos)
    rw [show lawMeanV zs = keptV (cutN (moT zs zs.length) (smT zs zs.length)) (cutD (moT zs zs.length) (smT zs zs.length)) from if_pos hl]
    obtain ⟨p, q, okk, hK⟩ := keptV_form (cutN (moT zs zs.length) (smT zs zs.length)) (cutD (moT zs zs.length) (smT zs zs.length))
    rw [hK] at KP ⊢
    generalize cutN (moT zs zs.length) (smT zs zs.length) = CN at *
    generalize cutD (moT zs zs.length) (smT zs zs.length) = CD at *
    rw [hl] at IL
    obtain ⟨q0, cq, rfl, _⟩ := h
    clear hl hK L
    go_enter Try.func16, Try.ntmps16
    go_wp2_with fail
    refine (IL.out _ (bl_up B0.out)).mono ?_
    rintro e w1 ⟨rfl, b1⟩
    have B1 := Lib.hid (bl_then B0.out b1)
    clear b1
    go_wp2_with fail
    refine (VM.out _ (bl_up B1.out)).mono ?_
    rintro e w2 ⟨rfl, b2⟩
    have B2 := Lib.hid (bl_then B1.out b2)
    clear b2
    go_wp2_with fail
    refine (KP.out _).mono ?_
    rintro e w3 ⟨rfl, b3⟩
    have B3 := Lib.hid (bl_then B2.out b3)
    clear b3
    obtain ⟨⟨x0, y0⟩, x1, y1⟩ := rs_cells B3.out
    go_wp2_with fail
    refine bodyPost_ret (v := .tuple #[.agg #[.int .i64 p, .int .i64 q], .bool okk]) (by simp [results, Try.results16, go_sem, x0, x1]) rfl ⟨rfl, ?_⟩
    exact rs_fin B3.out
end Go.Proofs.Ytnpiciabpgkiiaa
