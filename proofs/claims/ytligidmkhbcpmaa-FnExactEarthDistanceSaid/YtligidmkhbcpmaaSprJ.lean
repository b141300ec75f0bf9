/- Excesses, totals, and the functions that compare two spreads, in the program. -/
import Derived.Test.YtligidmkhbcpmaaSprI
import Derived.Test.YtligidmkhbcpmaaFill
namespace Go.Proofs.Ytligidmkhbcpmaa
open Go.RowKit
set_option linter.unusedVariables false
set_option maxRecDepth 100000 in
set_option maxHeartbeats 2000000 in
theorem excessY (as_ bs : List Int) (v u : Value) (B C : Nat) (w : World) (hn : as_.length ≤ 8) (hl : as_.length = bs.length) (ha : ∀ i, i < as_.length → -100000 ≤ as_.getD i 0 ∧ as_.getD i 0 ≤ 100000) (hb : ∀ i, i < as_.length → -100000 ≤ bs.getD i 0 ∧ bs.getD i 0 ≤ 100000) (hv : IntsV w B v as_) (hu : IntsV w C u bs) :
    Calls Try.prog 40 #[v, u] w fun e w' => e = .returned (.int .i64 (exT as_ bs as_.length)) ∧ w = w' := by
  obtain ⟨q, cq, rfl, _, _, _, iq⟩ := hv
  obtain ⟨r, cr, rfl, _, _, _, ir⟩ := hu
  have E1 := Lib.hid iq
  have E2 := Lib.hid ir
  have A1 := Lib.hid ha
  have A2 := Lib.hid hb
  have SB := Lib.hid (fun k hk => exT_bd (ps := as_) (qs := bs) (B := 200000) (n := as_.length) (fun i hi => by have := ha i hi; have := hb i hi; omega) k hk)
  have ST := Lib.hid (fun k => show exT as_ bs (k + 1) = exT as_ bs k + max 0 (as_.getD k 0 - bs.getD k 0) from rfl)
  have l1 : as_.length ≤ bs.length := by omega
  have HN := Lib.hid hn
  clear iq ir ha hb hl
  go_enter Try.func40, Try.ntmps40
  go_wp2_with fail
  go_loopg [5, 10] as_.length (fun gg s i wr => ∃ k : Nat, k ≤ as_.length ∧ as_.length - k ≤ gg ∧ i = .int .i64 k ∧ s = .int .i64 (exT as_ bs k) ∧ wr = w)
  case atStart => exact ⟨0, Nat.zero_le _, by omega, rfl, rfl, rfl⟩
  case round =>
    obtain ⟨k, hk, hgg, rfl, rfl, rfl⟩ := hrel
    by_cases hlt : k < as_.length
    · obtain ⟨b, off, rfl, hb, hc⟩ := E1.out.get hlt
      obtain ⟨b2, off2, rfl, hb2, hc2⟩ := E2.out.get (i := k) (by omega)
      have i0 : (0 : Int) ≤ (k : Int) := by omega
      have i1 : (k : Int) < (as_.length : Int) := by omega
      have i2 : (k : Int) < (bs.length : Int) := by omega
      have sb := SB.out k hk
      have xb := A1.out k hlt
      have yb := A2.out k hlt
      have st := Lib.hid (ST.out k)
      have kb : k * 200000 ≤ 1600000 := by have := HN.out; omega
      obtain ⟨x, hx⟩ : ∃ z, z = as_.getD k 0 := ⟨_, rfl⟩
      rw [← hx] at hc st xb
      obtain ⟨y, hy⟩ : ∃ z, z = bs.getD k 0 := ⟨_, rfl⟩
      rw [← hy] at hc2 st yb
      obtain ⟨s, hs⟩ : ∃ s, s = exT as_ bs k := ⟨_, rfl⟩
      rw [← hs] at sb st ⊢
      have sb1 : 0 ≤ s ∧ s ≤ 1600000 := by omega
      have W1 : IntKind.i64.wrap (x - y) = x - y := IntWalk.i64_in _ (by omega)
      have m1 : 0 ≤ max 0 (x - y) ∧ max 0 (x - y) ≤ 200000 := by omega
      obtain ⟨m, hm⟩ : ∃ m, m = max 0 (x - y) := ⟨_, rfl⟩
      have W2 : IntKind.i64.wrap (s + max 0 (x - y)) = s + max 0 (x - y) := IntWalk.i64_in _ (by omega)
      clear hx hy hs sb kb hm
      by_cases hxy : y < x
      · have e9 : max 0 (x - y) = x - y := by omega
        rw [e9] at st W2
        clear m1 e9
        go_wp2_with fail
        go_roundg (as_.length - (k + 1))
        case rel => exact ⟨k + 1, by omega, by omega, by go_num, by rw [st.out], rfl⟩
        case measure => omega
      · have e9 : max 0 (x - y) = 0 := by omega
        rw [e9] at st W2
        clear m1 e9
        go_wp2_with fail
        go_roundg (as_.length - (k + 1))
        case rel => exact ⟨k + 1, by omega, by omega, by go_num, by rw [st.out]; go_num, rfl⟩
        case measure => omega
    · have hkz : k = as_.length := by omega
      have FIN := Lib.hid (show exT as_ bs k = exT as_ bs as_.length by rw [hkz])
      clear hkz
      go_wp2_with fail
      go_ret
      exact ⟨by rw [FIN.out]; rfl, rfl⟩
/-- The totals so far, zeros behind them. -/
theorem tot_pre (zs : List Int) : totT zs = preL (fun i => smT zs (i + 1)) zs.length := rfl
set_option maxRecDepth 100000 in
set_option maxHeartbeats 4000000 in
theorem totalsY (zs : List Int) (v : Value) (w : World) (hn : zs.length ≤ 8) (hb : ∀ i, i < zs.length → -100000 ≤ zs.getD i 0 ∧ zs.getD i 0 ≤ 100000) (h : IntsV w w.heap.size v zs) :
    Calls Try.prog 41 #[v] w (NewInts (totT zs) w) := by
  obtain ⟨q, cq, rfl, _, _, _, iq⟩ := h
  have E1 := Lib.hid iq
  have A1 := Lib.hid hb
  have SB := Lib.hid (fun k hk => smT_bd (zs := zs) (B := 100000) (fun i hi => by have := hb i hi; omega) k hk)
  have ST := Lib.hid (fun k => show smT zs (k + 1) = smT zs k + zs.getD k 0 from rfl)
  have FS := Lib.hid (fun k hk => fill_set (f := fun i => smT zs (i + 1)) (n := zs.length) (k := k) hk)
  have TP := Lib.hid ((tot_pre zs).trans (fill_pre (fun i => smT zs (i + 1)) zs.length).symm)
  have FZ := Lib.hid (fill_zero (fun i => smT zs (i + 1)) zs.length)
  have HN := Lib.hid hn
  clear iq hb
  obtain ⟨t0, hi, hz0, hz1, hz2⟩ := info_parts intInfo
  have c1 : t0.bytes * zs.length ≤ 281474976710656 := by rw [hz2]; omega
  have c2 : zs.length ≤ maxLen := by unfold maxLen; omega
  go_enter Try.func41, Try.ntmps41
  go_wp2_with (at_make; refine wpList_make_full _ rfl _ _ 22 rfl w.heap.size 3 t0 (.int .i64 0) 1 Try.underlying22 hi hz0 hz1 .i64 .i64 _ _ zs.length rfl rfl rfl rfl c1 c2 (Nat.le_refl _) ?_; intro w1 hown hg)
  have hown5 : w1.ownsRow w.heap.size 3 1 (.slice (some ⟨w.heap.size, 0, none⟩) zs.length zs.length) zs.length (List.replicate zs.length (.int .i64 0)) := by
    have h2 := hown
    rw [show (Value.int .i64 0).cells = #[Value.int .i64 0] from rfl, Nat.mul_one, toList_madeCells_one] at h2
    simpa using h2
  have O1 := OwnV.made hown5
  rw [← FZ.out] at O1
  have HO := Lib.hid O1
  have HB := Lib.hid ((Below.refl w.heap.size w).grown hg (Nat.le_refl _) (by simp))
  obtain ⟨hi1, hh1⟩ : ∃ h, h = w1.heap.size := ⟨_, rfl⟩
  have HH := Lib.hid hh1
  rw [← hh1] at HO
  clear hown hown5 O1 FZ hh1 hg
  go_loopg [4, 12] zs.length (fun gg s i wr => ∃ k : Nat, k ≤ zs.length ∧ zs.length - k ≤ gg ∧ i = .int .i64 k ∧ s = .int .i64 (smT zs k) ∧ Hid (OwnV wr w.heap.size hi1 (.slice (some ⟨w.heap.size, 0, none⟩) zs.length zs.length) (fillL (fun i => smT zs (i + 1)) zs.length k)) ∧ Hid (Below w.heap.size w wr) ∧ Hid (hi1 = wr.heap.size))
  case atStart => exact ⟨0, Nat.zero_le _, by omega, rfl, rfl, HO, HB, HH⟩
  case round =>
    clear HO HB HH
    obtain ⟨k, hk, hgg, rfl, rfl, HO, HB, HH⟩ := hrel
    by_cases hlt : k < zs.length
    · obtain ⟨b, off, rfl, hb, hc⟩ := E1.out.get hlt
      have hcw : wr.cell? ⟨b, off + k, none⟩ = some (.int .i64 (zs.getD k 0)) := by rw [HB.out.cell (p := ⟨b, off + k, none⟩) hb]; exact hc
      have i0 : (0 : Int) ≤ (k : Int) := by omega
      have i1 : (k : Int) < (zs.length : Int) := by omega
      have sb := SB.out k hk
      have zb := A1.out k hlt
      have st := Lib.hid (ST.out k)
      have kb : k * 100000 ≤ 800000 := by have := HN.out; omega
      have hold := HO.out.cellGet (j := k) (by rw [fill_len]; exact hlt)
      have hfz := HO.out.frozenGet k
      obtain ⟨x, hx⟩ : ∃ z, z = zs.getD k 0 := ⟨_, rfl⟩
      rw [← hx] at hcw st zb
      have nb : -800000 ≤ smT zs k ∧ smT zs k ≤ 800000 := by omega
      have HO2 : Hid (OwnV (wr.setCell ⟨w.heap.size, k, none⟩ (.int .i64 (smT zs (k + 1)))) w.heap.size hi1 (.slice (some ⟨w.heap.size, 0, none⟩) zs.length zs.length) (fillL (fun i => smT zs (i + 1)) zs.length (k + 1))) := Lib.hid (by
        rw [← FS.out k hlt]; exact HO.out.setAt k (by unfold InI64; rw [st.out]; omega))
      have HB2 := Lib.hid (HB.out.setCell (p := ⟨w.heap.size, k, none⟩) (Nat.le_refl _) (.int .i64 (smT zs (k + 1))))
      have HH2 : Hid (hi1 = (wr.setCell ⟨w.heap.size, k, none⟩ (.int .i64 (smT zs (k + 1)))).heap.size) := Lib.hid (by rw [HH.out]; simp [World.setCell])
      have NX := Lib.hid st.out
      rw [st.out] at HO2 HB2 HH2
      obtain ⟨s, hs⟩ : ∃ s, s = smT zs k := ⟨_, rfl⟩
      rw [← hs] at nb HO2 HB2 HH2 NX ⊢
      obtain ⟨old, ho⟩ : ∃ old, old = (fillL (fun i => smT zs (i + 1)) zs.length k).getD k 0 := ⟨_, rfl⟩
      rw [← ho] at hold
      clear hc hx hs sb kb HO HB ho st HH
      go_wp2_with fail
      go_roundg (zs.length - (k + 1))
      case rel => exact ⟨k + 1, by omega, by omega, by go_num, by rw [NX.out], HO2, HB2, HH2⟩
      case measure => omega
    · have hkz : k = zs.length := by omega
      have FIN : Hid (NewInts (totT zs) w (.returned (.slice (some ⟨w.heap.size, 0, none⟩) zs.length zs.length)) wr) := Lib.hid ⟨_, rfl, by rw [TP.out]; rw [hkz] at HO; rw [← HH.out]; exact HO.out, HB.out⟩
      clear hkz HO HB HH
      go_wp2_with fail
      go_ret
      exact FIN.out
end Go.Proofs.Ytligidmkhbcpmaa
