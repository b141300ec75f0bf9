/- Laws of offers: whether a list is one, its total and its mean, in the program. -/
import Derived.Test.YtnpiciabpgkiiaaL7V
import Derived.Test.YtnpiciabpgkiiaaProcI
import Derived.Test.YtnpiciabpgkiiaaWlkI
import Derived.Deep.LoopGhost
namespace Go.Proofs.Ytnpiciabpgkiiaa
open Go.RowKit
set_option linter.unusedVariables false

set_option maxHeartbeats 2000000 in
theorem outVPred (cs : List Int) (w : World) :
    PredZ 47 #[] outV cs w := by
  intro W z hz hb
  have F := Lib.hid (fun w => fromI z 0 5 w)
  have D : Hid (outV z = !decide (0 ≤ z ∧ z ≤ 5)) := Lib.hid rfl
  clear hb hz
  show Calls _ _ #[.int .i64 z] _ _
  generalize decide (0 ≤ z ∧ z ≤ 5) = bb at *
  go_enter Try.func47, Try.ntmps47
  go_wp2_with fail
  refine (F.out _).mono ?_
  rintro e w1 ⟨rfl, rfl⟩
  go_wp2_with fail
  go_ret
  exact ⟨by rw [D.out]; rfl, Below.refl _ _⟩
set_option maxHeartbeats 2000000 in
theorem totIQ (zs : List Int) (v : Value) (B : Nat) (w : World) (hn : zs.length ≤ 1048576) (hb : ∀ i, i < zs.length → -1000000000 ≤ zs.getD i 0 ∧ zs.getD i 0 ≤ 1000000000) (h : IntsV w B v zs) :
    Calls Try.prog 50 #[v] w fun e w' => e = .returned (.int .i64 (smT zs zs.length)) ∧ w = w' := by
  obtain ⟨q, cq, rfl, lq, mq, zq, iq⟩ := h
  have E1 := Lib.hid iq
  have BD := Lib.hid hb
  have SB := Lib.hid (fun k hk => smT_bd (zs := zs) (B := 1000000000) (fun i hi => by have := hb i hi; omega) k hk)
  have ST := Lib.hid (fun k => show smT zs (k + 1) = smT zs k + zs.getD k 0 from rfl)
  clear iq zq mq lq hb
  go_enter Try.func50, Try.ntmps50
  go_wp2
  go_loopg [3, 8] zs.length (fun gg s i wr => ∃ k : Nat, k ≤ zs.length ∧ zs.length - k ≤ gg ∧ i = .int .i64 k ∧ s = .int .i64 (smT zs k) ∧ wr = w)
  case atStart => exact ⟨0, Nat.zero_le _, by omega, rfl, rfl, rfl⟩
  case round =>
    obtain ⟨k, hk, hgg, rfl, rfl, rfl⟩ := hrel
    by_cases hlt : k < zs.length
    · obtain ⟨b, off, rfl, hb, hc⟩ := E1.out.get hlt
      have i0 : (0 : Int) ≤ (k : Int) := by omega
      have i1 : (k : Int) < (zs.length : Int) := by omega
      have sb := SB.out k hk
      have zb := BD.out k hlt
      have st := Lib.hid (ST.out k)
      have kb : k * 1000000000 ≤ 1048576000000000 := by omega
      obtain ⟨z, hz⟩ : ∃ z, z = zs.getD k 0 := ⟨_, rfl⟩
      rw [← hz] at hc st zb
      obtain ⟨s, hs⟩ : ∃ s, s = smT zs k := ⟨_, rfl⟩
      rw [← hs] at sb st ⊢
      have sb1 : -1048576000000000 ≤ s ∧ s ≤ 1048576000000000 := by omega
      clear hz hs sb kb
      go_wp2_with fail
      go_roundg (zs.length - (k + 1))
      case rel => exact ⟨k + 1, by omega, by omega, by go_num, by rw [st.out], rfl⟩
      case measure => omega
    · have hkz : k = zs.length := by omega
      have FIN := Lib.hid (show smT zs k = smT zs zs.length by rw [hkz])
      clear hkz
      go_wp2_with fail
      go_ret
      exact ⟨by rw [FIN.out]; rfl, rfl⟩
theorem totI (zs : List Int) (v : Value) (B : Nat) (w : World) (hn : zs.length ≤ 1048576) (hb : ∀ i, i < zs.length → -1000000000 ≤ zs.getD i 0 ∧ zs.getD i 0 ≤ 1000000000) (h : IntsV w B v zs) :
    Calls Try.prog 50 #[v] w (Gives (.int .i64 (smT zs zs.length)) w) :=
  (totIQ zs v B w hn hb h).mono fun _ _ ⟨he, hw⟩ => ⟨he, by rw [hw]; exact Below.refl _ _⟩
set_option maxHeartbeats 2000000 in
theorem isLawI (zs : List Int) (v : Value) (w : World) (h : IntsV w w.heap.size v zs) :
    Calls Try.prog 14 #[v] w (Gives (.bool (lawB zs)) w) := by
  rw [lawB_prog]
  have hmf : ∀ (fn : Fn) (first cap : Array Value) (w : World), (Instr.makeFunc fn first cap).run Try.prog w = .ok (.func fn first cap) w := fun _ _ _ _ => rfl
  by_cases h5 : zs.length ≤ 5
  · have CV := Lib.hid (containsI zs v 47 #[] outV w (enters_of Try.func47 (by kernel_rfl) rfl) (by omega) h (outVPred zs w))
    have AO := Lib.hid (any_outV zs)
    rw [decide_eq_true h5, Bool.true_and]
    have hl := h.len
    cases ha : zs.all inV
    · rw [AO.out, ha] at CV
      obtain ⟨q, cq, rfl, _⟩ := h
      clear ha AO hl
      have i5 : (zs.length : Int) ≤ 5 := by omega
      clear h5
      go_enter Try.func14, Try.ntmps14
      go_wp2_with fail
      refine CV.out.mono ?_
      rintro e w1 ⟨rfl, b1⟩
      have HB1 := Lib.hid b1
      clear b1
      go_wp2_with fail
      go_ret
      exact ⟨rfl, HB1.out⟩
    · rw [AO.out, ha] at CV
      have BD := Lib.hid (fun i hi => allV_at ha (i := i) hi)
      have TOT := Lib.hid (fun w' (hb : Below w.heap.size w w') => totI zs v w.heap.size w' (by omega) (fun i hi => by have := BD.out i hi; omega) (h.below hb))
      obtain ⟨q, cq, rfl, _⟩ := h
      have i5 : (zs.length : Int) ≤ 5 := by omega
      generalize smT zs zs.length = s at *
      clear ha AO hl h5
      go_enter Try.func14, Try.ntmps14
      go_wp2_with fail
      refine CV.out.mono ?_
      rintro e w1 ⟨rfl, b1⟩
      have HB1 := Lib.hid b1
      clear b1
      go_wp2_with fail
      refine (TOT.out _ HB1.out).mono ?_
      rintro e w2 ⟨rfl, b2⟩
      have HB2 := Lib.hid (HB1.out.trans (b2.mono HB1.out.size))
      clear b2
      go_wp2_with fail
      go_ret
      exact ⟨rfl, HB2.out⟩
  · rw [decide_eq_false h5, Bool.false_and]
    have i5 : ¬ (zs.length : Int) ≤ 5 := by omega
    obtain ⟨q, cq, rfl, _⟩ := h
    clear h5
    go_enter Try.func14, Try.ntmps14
    go_wp2_with fail
    go_ret
    exact ⟨rfl, Below.refl _ _⟩
set_option maxRecDepth 100000 in
set_option maxHeartbeats 2000000 in
/-- The mean of the values that have these weights. -/
theorem valMeanI (zs : List Int) (v : Value) (w : World) (hn : zs.length ≤ 5) (hb : ∀ i, i < zs.length → 0 ≤ zs.getD i 0 ∧ zs.getD i 0 ≤ 1000000) (hp : 0 < smT zs zs.length) (h : IntsV w w.heap.size v zs) :
    Calls Try.prog 53 #[v] w (Gives (keptV (cutN (moT zs zs.length) (smT zs zs.length)) (cutD (moT zs zs.length) (smT zs zs.length))) w) := by
  have TOT := Lib.hid (fun w' (hb' : Below w.heap.size w w') => totI zs v w.heap.size w' (by omega) (fun i hi => by have := hb i hi; omega) (h.below hb'))
  have sb := smT_bd (zs := zs) (B := 1000000) (fun i hi => by have := hb i hi; omega) zs.length (Nat.le_refl _)
  have mb := moT_bd (zs := zs) (B := 1000000) (N := 5) hn (fun i hi => hb i hi) zs.length (Nat.le_refl _)
  have RD := Lib.hid (fun w => reduceI_any (moT zs zs.length) (smT zs zs.length) w (by omega) (by omega))
  obtain ⟨p, q, okk, hK⟩ := keptV_form (cutN (moT zs zs.length) (smT zs zs.length)) (cutD (moT zs zs.length) (smT zs zs.length))
  rw [hK] at RD ⊢
  obtain ⟨q0, cq, rfl, lq, mq, zq, iq⟩ := h
  have E1 := Lib.hid iq
  have BD := Lib.hid hb
  have MB := Lib.hid (fun k hk => moT_bd (zs := zs) (B := 1000000) (N := 5) hn (fun i hi => hb i hi) k hk)
  have MT := Lib.hid (fun k => show moT zs (k + 1) = moT zs k + (k : Int) * zs.getD k 0 from rfl)
  have HN := Lib.hid hn
  have B0 := Lib.hid (bl_self w (.cells #[.int .i64 0, .int .i64 0] 26))
  have BX := Lib.hid ((Below.refl w.heap.size w).alloc (Nat.le_refl _) (.cells #[.int .i64 0, .int .i64 0] 26))
  have RC := Lib.hid (fun w3 b => rs_cells (w := w) (w3 := w3) b)
  have RF := Lib.hid (fun w3 x y b => rs_fin (w := w) (w3 := w3) (x := x) (y := y) b)
  have LN := Lib.hid (show zs.length ≤ 1048576 by omega)
  generalize smT zs zs.length = S at *
  clear iq zq mq lq hb hK sb mb hp
  obtain ⟨wa, hwa⟩ : ∃ wa, wa = w.alloc (.cells #[.int .i64 0, .int .i64 0] 26) := ⟨_, rfl⟩
  rw [← hwa] at B0 BX RC RF
  go_enter Try.func53, Try.ntmps53
  go_wp2_with fail
  rw [← hwa]
  clear hwa
  go_loopg [4, 9] zs.length (fun gg s i wr => ∃ k : Nat, k ≤ zs.length ∧ zs.length - k ≤ gg ∧ i = .int .i64 k ∧ s = .int .i64 (moT zs k) ∧ Hid (Below wa.heap.size wa wr))
  case atStart => exact ⟨0, Nat.zero_le _, by omega, rfl, rfl, B0⟩
  case round =>
    clear B0
    obtain ⟨k, hk, hgg, rfl, rfl, HB⟩ := hrel
    by_cases hlt : k < zs.length
    · obtain ⟨b, off, rfl, hb, hc⟩ := E1.out.get hlt
      have hcw : wr.cell? ⟨b, off + k, none⟩ = some (.int .i64 (zs.getD k 0)) := by rw [(BX.out.trans (HB.out.mono BX.out.size)).cell (p := ⟨b, off + k, none⟩) hb]; exact hc
      have i0 : (0 : Int) ≤ (k : Int) := by omega
      have i1 : (k : Int) < (zs.length : Int) := by omega
      have i5 : (k : Int) ≤ 5 := by have := HN.out; omega
      have kb : k * (5 * 1000000) ≤ 25000000 := by have := HN.out; omega
      have mb := MB.out k hk
      have zb := BD.out k hlt
      have mt := Lib.hid (MT.out k)
      have pb0 : 0 ≤ (k : Int) * zs.getD k 0 := Int.mul_nonneg i0 zb.1
      have pb1 : (k : Int) * zs.getD k 0 ≤ 5 * 1000000 := Int.mul_le_mul i5 zb.2 zb.1 (by omega)
      have WR : IntKind.i64.wrap ((k : Int) * zs.getD k 0) = (k : Int) * zs.getD k 0 := IntWalk.i64_in _ (by omega)
      obtain ⟨z, hz⟩ : ∃ z, z = zs.getD k 0 := ⟨_, rfl⟩
      rw [← hz] at hcw mt zb pb0 pb1 WR
      obtain ⟨s, hs⟩ : ∃ s, s = moT zs k := ⟨_, rfl⟩
      rw [← hs] at mb mt ⊢
      have mb1 : 0 ≤ s ∧ s ≤ 25000000 := by omega
      clear hc hz hs mb kb
      go_wp2_with fail
      go_roundg (zs.length - (k + 1))
      case rel => exact ⟨k + 1, by omega, by omega, by go_num, by rw [mt.out], HB⟩
      case measure => omega
    · have hkz : k = zs.length := by omega
      have FIN := Lib.hid (show moT zs k = moT zs zs.length by rw [hkz])
      rw [FIN.out]
      clear hkz FIN
      generalize moT zs zs.length = M at *
      go_wp2_with fail
      refine (TOT.out _ (BX.out.trans (HB.out.mono BX.out.size))).mono ?_
      rintro e w1 ⟨rfl, b1⟩
      have HB1 := Lib.hid (HB.out.trans (b1.mono HB.out.size))
      clear b1
      go_wp2_with fail
      refine (RD.out _).mono ?_
      rintro e w2 ⟨rfl, b2⟩
      have HB2 := Lib.hid (HB1.out.trans (b2.mono HB1.out.size))
      clear b2
      obtain ⟨⟨x0, y0⟩, x1, y1⟩ := RC.out _ HB2.out
      go_wp2_with fail
      refine bodyPost_ret (v := .tuple #[.agg #[.int .i64 p, .int .i64 q], .bool okk]) (by simp [results, Try.results53, go_sem, x0, x1]) rfl ⟨rfl, ?_⟩
      exact RF.out _ _ _ HB2.out
set_option maxRecDepth 100000 in
set_option maxHeartbeats 2000000 in
theorem lawMeanI (zs : List Int) (v : Value) (w : World) (h : IntsV w w.heap.size v zs) :
    Calls Try.prog 17 #[v] w (Gives (lawMeanV zs) w) := by
  have IL := Lib.hid (fun w' (hb : Below w.heap.size w w') => isLawI zs v w' ((h.below hb).more hb.size))
  have B0 := Lib.hid (bl_self w (.cells #[.int .i64 0, .int .i64 0] 26))
  cases hl : lawB zs
  · rw [show lawMeanV zs = zeroP from if_neg (by rw [hl]; decide)]
    unfold zeroP
    rw [hl] at IL
    obtain ⟨q0, cq, rfl, _⟩ := h
    clear hl
    go_enter Try.func17, Try.ntmps17
    go_wp2_with fail
    refine (IL.out _ (bl_up B0.out)).mono ?_
    rintro e w1 ⟨rfl, b1⟩
    have B1 := Lib.hid (bl_then B0.out b1)
    clear b1
    obtain ⟨⟨x0, y0⟩, x1, y1⟩ := rs_cells B1.out
    go_wp2_with fail
    refine bodyPost_ret (v := .tuple #[.agg #[.int .i64 0, .int .i64 0], .bool false]) (by simp [results, Try.results17, go_sem, x0, x1]) rfl ⟨rfl, ?_⟩
    exact rs_fin B1.out
  · have L := lawB_iff.1 hl
    have VM := Lib.hid (fun w' (hb : Below w.heap.size w w') => valMeanI zs v w' L.n5 (fun i hi => by have := L.bd i hi; omega) L.pos ((h.below hb).more hb.size))
    rw [show lawMeanV zs = keptV (cutN (moT zs zs.length) (smT zs zs.length)) (cutD (moT zs zs.length) (smT zs zs.length)) from if_pos hl]
    obtain ⟨p, q, okk, hK⟩ := keptV_form (cutN (moT zs zs.length) (smT zs zs.length)) (cutD (moT zs zs.length) (smT zs zs.length))
    rw [hK] at VM ⊢
    rw [hl] at IL
    obtain ⟨q0, cq, rfl, _⟩ := h
    clear hl hK L
    go_enter Try.func17, Try.ntmps17
    go_wp2_with fail
    refine (IL.out _ (bl_up B0.out)).mono ?_
    rintro e w1 ⟨rfl, b1⟩
    have B1 := Lib.hid (bl_then B0.out b1)
    clear b1
    go_wp2_with fail
    refine (VM.out _ (bl_up B1.out)).mono ?_
    rintro e w2 ⟨rfl, b2⟩
    have B2 := Lib.hid (bl_then B1.out b2)
    clear b2
    obtain ⟨⟨x0, y0⟩, x1, y1⟩ := rs_cells B2.out
    go_wp2_with fail
    refine bodyPost_ret (v := .tuple #[.agg #[.int .i64 p, .int .i64 q], .bool okk]) (by simp [results, Try.results17, go_sem, x0, x1]) rfl ⟨rfl, ?_⟩
    exact rs_fin B2.out
end Go.Proofs.Ytnpiciabpgkiiaa
