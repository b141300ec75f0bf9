/- MoveApart and MixSpreads in the program: what they answer. -/
import Derived.Test.YtligidmkhbcpmaaSprI
import Derived.Test.YtligidmkhbcpmaaMovP
namespace Go.Proofs.Ytligidmkhbcpmaa
open Go.RowKit
set_option linter.unusedVariables false
set_option maxRecDepth 100000 in
set_option maxHeartbeats 4000000 in
theorem movI (zs : List Int) (s : Int) (v : Value) (w : World) (hn : zs.length ≤ 1048576) (hs : InI64 s) (hv : IntsV w w.heap.size v zs) :
    Calls Try.prog 27 #[v, .int .i64 s] w (NewIntsB (mvL zs s) (mvB zs s) w) := by
  have SP := Lib.hid (fun w' (hb : Below w.heap.size w w') => isSpreadY zs v w' hn ((hv.below hb).more hb.size))
  have FR := Lib.hid (fun w => fromY s 1 ((zs.length : Int) - 2) w)
  cases hsp : sprB zs
  · have R := Lib.hid (show mvB zs s = false by unfold mvB; rw [hsp, Bool.false_and])
    rw [show mvL zs s = [] from if_neg (by rw [R.out]; decide), R.out]
    rw [hsp] at SP
    obtain ⟨q1, c1, rfl, _⟩ := hv
    clear hsp
    go_enter Try.func27, Try.ntmps27
    go_wp2_with fail
    refine (SP.out _ (Below.refl _ _)).mono ?_
    rintro e w1 ⟨rfl, b1⟩
    have B1 := Lib.hid b1
    clear b1
    go_wp2_with fail
    go_ret2
    exact newInts_empty B1.out
  rw [hsp] at SP
  have n8 := (sprB_iff.1 hsp).n8
  by_cases hr : 1 ≤ s ∧ s ≤ (zs.length : Int) - 2
  · rw [decide_eq_true hr] at FR
    obtain ⟨j, hj⟩ : ∃ j : Nat, s = (j : Int) + 1 := ⟨s.toNat - 1, by omega⟩
    have hjn : j + 2 < zs.length := by omega
    have e1 : s.toNat = j + 1 := by omega
    by_cases h2 : 2 ≤ zs.getD (j + 1) 0
    · have M : Mov zs j := ⟨sprB_iff.1 hsp, hjn, h2⟩
      have R : mvB zs s = true := by unfold mvB; rw [hsp, decide_eq_true hr, e1, decide_eq_true h2]; rfl
      have L : mvL zs s = ((zs.set j (zs.getD j 0 + 1)).set (j + 1) (zs.getD (j + 1) 0 - 2)).set (j + 2) (zs.getD (j + 2) 0 + 1) := by
        unfold mvL; rw [if_pos R, e1, mvT_eq M]
      rw [L, R]
      have CL := Lib.hid (fun w' (hb : Below w.heap.size w w') => cloneY zs v w' (by omega) hn ((hv.below hb).more hb.size))
      have bx := M.p.bd j (by omega)
      have by_ := M.p.bd (j + 1) (by omega)
      have bz := M.p.bd (j + 2) (by omega)
      have gy := getD_setY zs j (j + 1) (zs.getD j 0 + 1)
      rw [if_neg (by omega)] at gy
      have gz : ((zs.set j (zs.getD j 0 + 1)).set (j + 1) (zs.getD (j + 1) 0 - 2)).getD (j + 2) 0 = zs.getD (j + 2) 0 := by rw [getD_setY, if_neg (by omega), getD_setY, if_neg (by omega)]
      have GY := Lib.hid gy
      have GZ := Lib.hid gz
      obtain ⟨q1, c1, rfl, _, _, _, iq⟩ := hv
      obtain ⟨b, off, rfl, hb, hc⟩ := iq.get (i := j + 1) (by omega)
      have HC := Lib.hid (fun w' (h : Below w.heap.size w w') => show w'.cell? ⟨b, off + (j + 1), none⟩ = some (.int .i64 (zs.getD (j + 1) 0)) by rw [h.cell (p := ⟨b, off + (j + 1), none⟩) hb]; exact hc)
      obtain ⟨k, hk⟩ : ∃ k, k = j + 1 := ⟨_, rfl⟩
      obtain ⟨m, hm⟩ : ∃ m, m = j + 2 := ⟨_, rfl⟩
      rw [← hk] at HC h2 by_ GY GZ
      rw [← hm] at bz GZ
      rw [← hk, ← hm] at ⊢
      have hjs : s = (k : Int) := by omega
      subst hjs
      have kj : (k : Int) - 1 = (j : Int) := by omega
      have km : (k : Int) + 1 = (m : Int) := by omega
      have kjt : ((k : Int) + 1).toNat = m := by omega
      have k0 : (0 : Int) ≤ (k : Int) := by omega
      have k1 : (k : Int) < (zs.length : Int) := by omega
      have j0 : (0 : Int) ≤ (j : Int) := by omega
      have j1 : (j : Int) < (zs.length : Int) := by omega
      have m0 : (0 : Int) ≤ (m : Int) := by omega
      have m1 : (m : Int) < (zs.length : Int) := by omega
      have jk : j ≠ k := by omega
      have jm : j ≠ m := by omega
      have kmn : k ≠ m := by omega
      have jl : j < zs.length := by omega
      have kl : k < zs.length := by omega
      have ml : m < zs.length := by omega
      have WD : IntKind.i64.wrap ((zs.length : Int) - 2) = (zs.length : Int) - 2 := IntWalk.i64_in _ (by omega)
      obtain ⟨x, hx⟩ : ∃ x, x = zs.getD j 0 := ⟨_, rfl⟩
      obtain ⟨y, hy⟩ : ∃ y, y = zs.getD k 0 := ⟨_, rfl⟩
      obtain ⟨z, hz⟩ : ∃ z, z = zs.getD m 0 := ⟨_, rfl⟩
      rw [← hx] at bx GY GZ
      rw [← hy] at by_ h2 HC GY GZ
      rw [← hz] at bz GZ
      have XX := Lib.hid hx
      have hnl : ¬ y < 2 := by omega
      rw [← hx, ← hy, ← hz]
      clear iq hc hx hy hz hsp hr e1 hj hk hm M R L gy gz h2
      go_enter Try.func27, Try.ntmps27
      go_wp2_with fail
      refine (SP.out _ (Below.refl _ _)).mono ?_
      rintro e w1 ⟨rfl, b1⟩
      have B1 := Lib.hid b1
      clear b1
      go_wp2_with fail
      refine (FR.out _).mono ?_
      rintro e w2 ⟨rfl, rfl⟩
      have xk := HC.out _ B1.out
      go_wp2_with fail
      refine (CL.out _ B1.out).mono ?_
      rintro e w3 ⟨x3, rfl, o3, b3⟩
      obtain ⟨g, cg, rfl, hg1, hg2⟩ := o3.shape (by omega)
      have B3 := bl_up' B1 b3
      have hfz := o3.frozenGet j
      have y0 : w3.cell? ⟨g, j, none⟩ = some (.int .i64 x) := by rw [o3.cellGet jl, ← XX.out]
      have O4 := Lib.hid (o3.setAt j (x := x + 1) (by unfold InI64; omega))
      have B4 : Hid (Below w.heap.size w (w3.setCell ⟨g, j, none⟩ (.int .i64 (x + 1)))) := Lib.hid (B3.out.setCell (p := ⟨g, j, none⟩) (by have := B1.out.size; show w.heap.size ≤ g; omega) _)
      clear b3 o3
      go_upto_region 5 with fail
      obtain ⟨w4, hw4⟩ : ∃ w4, w4 = w3.setCell ⟨g, j, none⟩ (.int .i64 (x + 1)) := ⟨_, rfl⟩
      rw [← hw4] at O4 B4 ⊢
      clear hw4 y0 hfz
      have hfz := O4.out.frozenGet k
      have y1 : w4.cell? ⟨g, k, none⟩ = some (.int .i64 y) := by rw [O4.out.cellGet (by rw [List.length_set]; exact kl), GY.out]
      have O5 := Lib.hid (O4.out.setAt k (x := y - 2) (by unfold InI64; omega))
      have B5 : Hid (Below w.heap.size w (w4.setCell ⟨g, k, none⟩ (.int .i64 (y - 2)))) := Lib.hid (B4.out.setCell (p := ⟨g, k, none⟩) (by have := B1.out.size; show w.heap.size ≤ g; omega) _)
      go_upto_region 6 with fail
      obtain ⟨w5, hw5⟩ : ∃ w5, w5 = w4.setCell ⟨g, k, none⟩ (.int .i64 (y - 2)) := ⟨_, rfl⟩
      rw [← hw5] at O5 B5 ⊢
      have HS5 : w5.heap.size = w4.heap.size := by rw [hw5]; simp [World.setCell]
      clear hw5 y1 hfz O4
      have hfz := O5.out.frozenGet m
      have y2 : w5.cell? ⟨g, m, none⟩ = some (.int .i64 z) := by rw [O5.out.cellGet (by rw [List.length_set, List.length_set]; exact ml), GZ.out]
      have O6 := Lib.hid (O5.out.setAt m (x := z + 1) (by unfold InI64; omega))
      have B6 : Hid (Below w.heap.size w (w5.setCell ⟨g, m, none⟩ (.int .i64 (z + 1)))) := Lib.hid (B5.out.setCell (p := ⟨g, m, none⟩) (by have := B1.out.size; show w.heap.size ≤ g; omega) _)
      go_wp2_with fail
      go_ret2
      exact ⟨_, rfl, (O6.out.low B1.out.size).wide O6.out.room (Nat.le_refl _), B6.out⟩
    · have R := Lib.hid (show mvB zs s = false by unfold mvB; rw [hsp, decide_eq_true hr, e1, decide_eq_false h2]; rfl)
      rw [show mvL zs s = [] from if_neg (by rw [R.out]; decide), R.out]
      have hbd := (sprB_iff.1 hsp).bd (j + 1) (by omega)
      obtain ⟨q1, c1, rfl, _, _, _, iq⟩ := hv
      obtain ⟨b, off, rfl, hb, hc⟩ := iq.get (i := j + 1) (by omega)
      have HC := Lib.hid (fun w' (h : Below w.heap.size w w') => show w'.cell? ⟨b, off + (j + 1), none⟩ = some (.int .i64 (zs.getD (j + 1) 0)) by rw [h.cell (p := ⟨b, off + (j + 1), none⟩) hb]; exact hc)
      obtain ⟨k, hk⟩ : ∃ k, k = j + 1 := ⟨_, rfl⟩
      rw [← hk] at HC h2 hbd
      have hjs : s = (k : Int) := by omega
      subst hjs
      have k0 : (0 : Int) ≤ (k : Int) := by omega
      have k1 : (k : Int) < (zs.length : Int) := by omega
      have WD : IntKind.i64.wrap ((zs.length : Int) - 2) = (zs.length : Int) - 2 := IntWalk.i64_in _ (by omega)
      obtain ⟨y, hy⟩ : ∃ y, y = zs.getD k 0 := ⟨_, rfl⟩
      rw [← hy] at HC h2 hbd
      have hlt : y < 2 := by omega
      clear iq hc hy hsp hr e1 hj hk h2 hjn
      go_enter Try.func27, Try.ntmps27
      go_wp2_with fail
      refine (SP.out _ (Below.refl _ _)).mono ?_
      rintro e w1 ⟨rfl, b1⟩
      have B1 := Lib.hid b1
      clear b1
      go_wp2_with fail
      refine (FR.out _).mono ?_
      rintro e w2 ⟨rfl, rfl⟩
      have xk := HC.out _ B1.out
      go_wp2_with fail
      go_ret2
      exact newInts_empty B1.out
  · rw [decide_eq_false hr] at FR
    have R := Lib.hid (show mvB zs s = false by unfold mvB; rw [hsp, decide_eq_false hr]; rfl)
    rw [show mvL zs s = [] from if_neg (by rw [R.out]; decide), R.out]
    have WD : IntKind.i64.wrap ((zs.length : Int) - 2) = (zs.length : Int) - 2 := IntWalk.i64_in _ (by omega)
    obtain ⟨q1, c1, rfl, _⟩ := hv
    clear hsp hr
    go_enter Try.func27, Try.ntmps27
    go_wp2_with fail
    refine (SP.out _ (Below.refl _ _)).mono ?_
    rintro e w1 ⟨rfl, b1⟩
    have B1 := Lib.hid b1
    clear b1
    go_wp2_with fail
    refine (FR.out _).mono ?_
    rintro e w2 ⟨rfl, rfl⟩
    go_wp2_with fail
    go_ret2
    exact newInts_empty B1.out
set_option maxRecDepth 100000 in
set_option maxHeartbeats 4000000 in
theorem mixI (ps qs : List Int) (v u : Value) (w : World) (hp : ps.length ≤ 1048576) (hq : qs.length ≤ 1048576) (hv : IntsV w w.heap.size v ps) (hu : IntsV w w.heap.size u qs) :
    Calls Try.prog 31 #[v, u] w (NewIntsB (mixL ps qs) (mixB ps qs) w) := by
  have AL := Lib.hid (aliY ps qs v u w hp hq hv hu)
  unfold aliV at AL
  cases ha : aliB ps qs
  · have R := Lib.hid (show mixB ps qs = false by unfold mixB; rw [ha, Bool.false_and])
    rw [show mixL ps qs = [] from if_neg (by rw [R.out]; decide), R.out]
    rw [ha] at AL
    obtain ⟨q1, c1, rfl, _⟩ := hv
    obtain ⟨q2, c2, rfl, _⟩ := hu
    clear ha
    generalize (sprB ps && sprB qs) = ok at *
    go_enter Try.func31, Try.ntmps31
    go_wp2_with fail
    refine AL.out.mono ?_
    rintro e w1 ⟨rfl, b1⟩
    have B1 := Lib.hid b1
    clear b1
    go_wp2_with fail
    go_ret2
    exact newInts_empty B1.out
  · have A := aliB_iff.1 ha
    have CL := Lib.hid (fun w' (hb : Below w.heap.size w w') => cloneY ps v w' (by have := A.p.n1; omega) hp ((hv.below hb).more hb.size))
    have IS := Lib.hid (fun w' x B (hB : B ≤ w'.heap.size) (h : IntsV w' B x (mxT ps qs)) => isSpreadY (mxT ps qs) x w' (by rw [mxT_len]; exact hp) (h.more hB))
    have MB := Lib.hid (show mixB ps qs = sprB (mxT ps qs) by unfold mixB; rw [ha, Bool.true_and])
    have ML := Lib.hid (show mixL ps qs = if sprB (mxT ps qs) = true then mxT ps qs else [] by unfold mixL; rw [MB.out])
    have PA := Lib.hid A.p
    have QA := Lib.hid A.q
    have l1 : ps.length ≤ qs.length := by have := A.len; omega
    have l2 : qs.length ≤ ps.length := by have := A.len; omega
    have n8 := A.p.n8
    have n1 := A.p.n1
    have ZE := Lib.hid (mxF_zero ps qs)
    have AE := Lib.hid (mxF_all ps qs)
    have SE := Lib.hid (fun k hk => mxF_set (ps := ps) (qs := qs) (k := k) hk)
    rw [ha] at AL
    obtain ⟨q1, c1, rfl, _⟩ := hv
    obtain ⟨q2, c2, rfl, _, _, _, ir⟩ := hu
    have E2 := Lib.hid ir
    clear ha A ir
    generalize (sprB ps && sprB qs) = ok at *
    go_enter Try.func31, Try.ntmps31
    go_wp2_with fail
    refine AL.out.mono ?_
    rintro e w1 ⟨rfl, b1⟩
    have B1 := Lib.hid b1
    clear b1
    go_wp2_with fail
    refine (CL.out _ B1.out).mono ?_
    rintro e w3 ⟨x3, rfl, o3, b3⟩
    obtain ⟨g, cg, rfl, hg1, hg2⟩ := o3.shape (by omega)
    have B3 := bl_up' B1 b3
    have HG : Hid (w.heap.size ≤ g) := Lib.hid (by have := B1.out.size; omega)
    have s1 := B1.out.size
    obtain ⟨lo, hlo⟩ : ∃ lo, lo = w1.heap.size := ⟨_, rfl⟩
    obtain ⟨hi, hhi⟩ : ∃ hi, hi = w3.heap.size := ⟨_, rfl⟩
    rw [← hlo, ← hhi] at o3
    have O3 := Lib.hid (show OwnV w3 lo hi (.slice (some ⟨g, 0, none⟩) ps.length cg) (mxF ps qs 0) by rw [ZE.out]; exact o3)
    have HH := Lib.hid hhi
    have LO : Hid (w.heap.size ≤ lo) := Lib.hid (by omega)
    clear b3 o3 ZE hhi hlo hg1 hg2 s1 CL
    go_wp2_with fail
    go_loopg [24] ps.length (fun gg i wr => ∃ k : Nat, k ≤ ps.length ∧ ps.length - k ≤ gg ∧ i = .int .i64 k ∧ Hid (OwnV wr lo hi (.slice (some ⟨g, 0, none⟩) ps.length cg) (mxF ps qs k)) ∧ Hid (Below w.heap.size w wr) ∧ Hid (hi = wr.heap.size))
    case atStart => exact ⟨0, Nat.zero_le _, by omega, rfl, O3, B3, HH⟩
    case round =>
      clear O3 B3 HH
      obtain ⟨k, hk, hgg, rfl, HO, HB, HH⟩ := hrel
      by_cases hlt : k < ps.length
      · obtain ⟨b2, off2, rfl, hb2, hc2⟩ := E2.out.get (i := k) (by omega)
        have hcw2 : wr.cell? ⟨b2, off2 + k, none⟩ = some (.int .i64 (qs.getD k 0)) := by rw [HB.out.cell (p := ⟨b2, off2 + k, none⟩) hb2]; exact hc2
        have i0 : (0 : Int) ≤ (k : Int) := by omega
        have i1 : (k : Int) < (qs.length : Int) := by omega
        have i2 : (k : Int) < (ps.length : Int) := by omega
        have xb := PA.out.bd k hlt
        have yb := QA.out.bd k (by omega)
        have hold : wr.cell? ⟨g, k, none⟩ = some (.int .i64 (ps.getD k 0)) := by rw [HO.out.cellGet (j := k) (by rw [mxF_len]; exact hlt), mxF_at hlt, if_neg (by omega)]
        have hfz := HO.out.frozenGet k
        have HO2 : Hid (OwnV (wr.setCell ⟨g, k, none⟩ (.int .i64 (ps.getD k 0 + qs.getD k 0))) lo hi (.slice (some ⟨g, 0, none⟩) ps.length cg) (mxF ps qs (k + 1))) := Lib.hid (by
          rw [← SE.out k hlt]; exact HO.out.setAt k (by unfold InI64; omega))
        have HB2 := Lib.hid (HB.out.setCell (p := ⟨g, k, none⟩) HG.out (.int .i64 (ps.getD k 0 + qs.getD k 0)))
        have HH2 : Hid (hi = (wr.setCell ⟨g, k, none⟩ (.int .i64 (ps.getD k 0 + qs.getD k 0))).heap.size) := Lib.hid (by rw [HH.out]; simp [World.setCell])
        obtain ⟨x, hx⟩ : ∃ z, z = ps.getD k 0 := ⟨_, rfl⟩
        rw [← hx] at hold xb HO2 HB2 HH2
        obtain ⟨y, hy⟩ : ∃ z, z = qs.getD k 0 := ⟨_, rfl⟩
        rw [← hy] at hcw2 yb HO2 HB2 HH2
        clear hc2 hx hy HO HB HH hb2
        go_wp2_with fail
        go_roundg (ps.length - (k + 1))
        case rel => exact ⟨k + 1, by omega, by omega, by go_num, HO2, HB2, HH2⟩
        case measure => omega
      · have hkz : k = ps.length := by omega
        have OT : Hid (OwnV wr lo hi (.slice (some ⟨g, 0, none⟩) ps.length cg) (mxT ps qs)) := Lib.hid (by have e := AE.out; have h := HO.out; rw [hkz] at h; rw [← e]; exact h)
        have I2 := Lib.hid (IS.out wr _ hi (by rw [HH.out]; exact Nat.le_refl _) OT.out.intsV)
        clear hkz HO IS AE SE
        cases hs : sprB (mxT ps qs)
        · rw [hs] at I2 ML MB
          have E1 := Lib.hid (show mixL ps qs = [] from ML.out)
          clear hs ML
          go_wp2_with fail
          refine I2.out.mono ?_
          rintro e w4 ⟨rfl, b4⟩
          have B4 := bl_up' HB b4
          clear b4
          go_wp2_with fail
          go_ret2
          rw [E1.out, MB.out]
          exact newInts_empty B4.out
        · rw [hs] at I2 ML MB
          have E1 := Lib.hid (show mixL ps qs = mxT ps qs from ML.out)
          clear hs ML
          go_wp2_with fail
          refine I2.out.mono ?_
          rintro e w4 ⟨rfl, b4⟩
          have B4 := bl_up' HB b4
          have O4 := Lib.hid (OT.out.below (b4.mono (by rw [HH.out]; exact Nat.le_refl _)))
          clear b4 OT
          go_wp2_with fail
          go_ret2
          rw [E1.out, MB.out]
          exact ⟨_, rfl, (O4.out.low LO.out).wide O4.out.room (Nat.le_refl _), B4.out⟩
end Go.Proofs.Ytligidmkhbcpmaa
