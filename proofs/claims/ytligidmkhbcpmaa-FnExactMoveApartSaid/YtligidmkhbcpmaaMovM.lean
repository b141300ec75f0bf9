/- MoveApart in the model: what it answers. -/
import Derived.Test.YtligidmkhbcpmaaSprM
import Derived.Test.YtligidmkhbcpmaaMovP
import Derived.Maps.AppendAt
namespace Go.Proofs.Ytligidmkhbcpmaa
open Go.RowKit
set_option linter.unusedVariables false
set_option maxHeartbeats 1000000 in
theorem ownZ (zs : List Int) (v : Value) (w : World) (hp : 0 < zs.length) (hn : zs.length ≤ 1048576) (h : IntsV w w.heap.size v zs) :
    Calls Try.prog 46 #[v] w (NewInts zs w) := by
  obtain ⟨p, cap, rfl, hc, hm, hz, hI⟩ := h
  obtain ⟨b, off, rfl, hb, _⟩ := hI.get hp
  have CE : ∀ j u, (zs.map (Value.int .i64))[j]? = some u → (w.alloc (.cells #[] 3)).cell? ((⟨b, off, none⟩ : Addr).add j) = some u := by
    intro j u hu
    rw [List.getElem?_map] at hu
    have hj : j < zs.length := by
      rcases Nat.lt_or_ge j zs.length with h' | h'
      · exact h'
      · rw [List.getElem?_eq_none h'] at hu; cases hu
    obtain ⟨b', off', e, hb', hc'⟩ := hI j hj
    obtain ⟨rfl, rfl⟩ : b = b' ∧ off = off' := by simpa using e
    rw [List.getElem?_eq_getElem hj] at hu
    rw [Addr.add_lit, World.cell?_alloc_lt _ _ _ (by exact hb'), hc']; exact hu
  have HZ := Lib.hid hz
  have HCE := Lib.hid CE
  clear hI hz CE
  obtain ⟨i0, hi, hz0, hz1, hz2⟩ := info_parts intInfo
  have B1 := Lib.hid ((Below.refl w.heap.size w).alloc (Nat.le_refl _) (.cells #[] 3))
  have O1 := Lib.hid (OwnV.empty w w.heap.size (Nat.le_refl _))
  go_enter Try.func46, Try.ntmps46
  go_wp2_with (at_builtin; refine wpList_append_own _ rfl _ _ 22 rfl w.heap.size 3 i0 (.int .i64 0) 1 8 Try.underlying22 hi hz0 hz1 hz2 rfl (by decide) _ 0 [] rfl O1.out.row ⟨b, off, none⟩ zs.length cap (zs.map (.int .i64)) rfl (by simp) HCE.out (fun u hu => by obtain ⟨z, _, rfl⟩ := List.mem_map.1 hu; rfl) (by unfold maxLen; omega) (by omega) (by simp) ?_; intro v' w3 hown3 hgrow3 hnil3)
  have FIN : Hid (NewInts zs w (.returned v') w3) := Lib.hid ⟨v', rfl, ⟨by simpa using hown3, fun q hq => (hown3.lt q hq).2, Nat.le_refl _, HZ.out⟩, B1.out.grown hgrow3 (by simp) (fun q hq => (O1.out.row.lt q hq).1)⟩
  clear hown3 hgrow3 hnil3
  go_ret
  exact FIN.out
set_option maxRecDepth 100000 in
set_option maxHeartbeats 4000000 in
theorem movS (zs : List Int) (s : Int) (v : Value) (w : World) (hn : zs.length ≤ 1048576) (hs : InI64 s) (hv : IntsV w w.heap.size v zs) :
    Calls Try.prog 26 #[v, .int .i64 s] w (NewIntsB (mvL zs s) (mvB zs s) w) := by
  have SP := Lib.hid (fun w' (hb : Below w.heap.size w w') => sprS zs v w.heap.size w' hn (hv.below hb))
  have FR := Lib.hid (fun w => inS s 1 ((zs.length : Int) - 2) w)
  cases hsp : sprB zs
  · have R := Lib.hid (show mvB zs s = false by unfold mvB; rw [hsp, Bool.false_and])
    rw [show mvL zs s = [] from if_neg (by rw [R.out]; decide), R.out]
    rw [hsp] at SP
    obtain ⟨q1, c1, rfl, _⟩ := hv
    clear hsp
    go_enter Try.func26, Try.ntmps26
    go_wp2_with fail
    refine (SP.out _ (Below.refl _ _)).mono ?_
    rintro e w1 ⟨rfl, b1⟩
    have B1 := Lib.hid b1
    clear b1
    go_wp2_with fail
    go_ret2
    exact newInts_empty B1.out
  rw [hsp] at SP
  have n8 := (sprB_iff.1 hsp).n8
  by_cases hr : 1 ≤ s ∧ s ≤ (zs.length : Int) - 2
  · rw [decide_eq_true hr] at FR
    obtain ⟨j, hj⟩ : ∃ j : Nat, s = (j : Int) + 1 := ⟨s.toNat - 1, by omega⟩
    have hjn : j + 2 < zs.length := by omega
    have e1 : s.toNat = j + 1 := by omega
    by_cases h2 : 2 ≤ zs.getD (j + 1) 0
    · have M : Mov zs j := ⟨sprB_iff.1 hsp, hjn, h2⟩
      have R : mvB zs s = true := by unfold mvB; rw [hsp, decide_eq_true hr, e1, decide_eq_true h2]; rfl
      have L : mvL zs s = ((zs.set j (zs.getD j 0 + 1)).set (j + 1) (zs.getD (j + 1) 0 - 2)).set (j + 2) (zs.getD (j + 2) 0 + 1) := by
        unfold mvL; rw [if_pos R, e1, mvT_eq M]
      rw [L, R]
      have CL := Lib.hid (fun w' (hb : Below w.heap.size w w') => ownZ zs v w' (by omega) hn ((hv.below hb).more hb.size))
      have bx := M.p.bd j (by omega)
      have by_ := M.p.bd (j + 1) (by omega)
      have bz := M.p.bd (j + 2) (by omega)
      have gy := getD_setY zs j (j + 1) (zs.getD j 0 + 1)
      rw [if_neg (by omega)] at gy
      have gz : ((zs.set j (zs.getD j 0 + 1)).set (j + 1) (zs.getD (j + 1) 0 - 2)).getD (j + 2) 0 = zs.getD (j + 2) 0 := by rw [getD_setY, if_neg (by omega), getD_setY, if_neg (by omega)]
      have GY := Lib.hid gy
      have GZ := Lib.hid gz
      obtain ⟨q1, c1, rfl, _, _, _, iq⟩ := hv
      obtain ⟨b, off, rfl, hb, hc⟩ := iq.get (i := j + 1) (by omega)
      have HC := Lib.hid (fun w' (h : Below w.heap.size w w') => show w'.cell? ⟨b, off + (j + 1), none⟩ = some (.int .i64 (zs.getD (j + 1) 0)) by rw [h.cell (p := ⟨b, off + (j + 1), none⟩) hb]; exact hc)
      obtain ⟨k, hk⟩ : ∃ k, k = j + 1 := ⟨_, rfl⟩
      obtain ⟨m, hm⟩ : ∃ m, m = j + 2 := ⟨_, rfl⟩
      rw [← hk] at HC h2 by_ GY GZ
      rw [← hm] at bz GZ
      rw [← hk, ← hm] at ⊢
      have hjs : s = (k : Int) := by omega
      subst hjs
      have kj : (k : Int) - 1 = (j : Int) := by omega
      have km : (k : Int) + 1 = (m : Int) := by omega
      have kjt : ((k : Int) + 1).toNat = m := by omega
      have k0 : (0 : Int) ≤ (k : Int) := by omega
      have k1 : (k : Int) < (zs.length : Int) := by omega
      have j0 : (0 : Int) ≤ (j : Int) := by omega
      have j1 : (j : Int) < (zs.length : Int) := by omega
      have m0 : (0 : Int) ≤ (m : Int) := by omega
      have m1 : (m : Int) < (zs.length : Int) := by omega
      have jk : j ≠ k := by omega
      have jm : j ≠ m := by omega
      have kmn : k ≠ m := by omega
      have jl : j < zs.length := by omega
      have kl : k < zs.length := by omega
      have ml : m < zs.length := by omega
      have WD : IntKind.i64.wrap ((zs.length : Int) - 2) = (zs.length : Int) - 2 := IntWalk.i64_in _ (by omega)
      obtain ⟨x, hx⟩ : ∃ x, x = zs.getD j 0 := ⟨_, rfl⟩
      obtain ⟨y, hy⟩ : ∃ y, y = zs.getD k 0 := ⟨_, rfl⟩
      obtain ⟨z, hz⟩ : ∃ z, z = zs.getD m 0 := ⟨_, rfl⟩
      rw [← hx] at bx GY GZ
      rw [← hy] at by_ h2 HC GY GZ
      rw [← hz] at bz GZ
      have XX := Lib.hid hx
      have hnl : ¬ y < 2 := by omega
      rw [← hx, ← hy, ← hz]
      clear iq hc hx hy hz hsp hr e1 hj hk hm M R L gy gz h2
      go_enter Try.func26, Try.ntmps26
      go_wp2_with fail
      refine (SP.out _ (Below.refl _ _)).mono ?_
      rintro e w1 ⟨rfl, b1⟩
      have B1 := Lib.hid b1
      clear b1
      go_wp2_with fail
      refine (FR.out _).mono ?_
      rintro e w2 ⟨rfl, rfl⟩
      have xk := HC.out _ B1.out
      go_wp2_with fail
      refine (CL.out _ B1.out).mono ?_
      rintro e w3 ⟨x3, rfl, o3, b3⟩
      obtain ⟨g, cg, rfl, hg1, hg2⟩ := o3.shape (by omega)
      have B3 := bl_upS B1 b3
      have hfz := o3.frozenGet j
      have y0 : w3.cell? ⟨g, j, none⟩ = some (.int .i64 x) := by rw [o3.cellGet jl, ← XX.out]
      have O4 := Lib.hid (o3.setAt j (x := x + 1) (by unfold InI64; omega))
      have B4 : Hid (Below w.heap.size w (w3.setCell ⟨g, j, none⟩ (.int .i64 (x + 1)))) := Lib.hid (B3.out.setCell (p := ⟨g, j, none⟩) (by have := B1.out.size; show w.heap.size ≤ g; omega) _)
      clear b3 o3
      go_upto_region 5 with fail
      obtain ⟨w4, hw4⟩ : ∃ w4, w4 = w3.setCell ⟨g, j, none⟩ (.int .i64 (x + 1)) := ⟨_, rfl⟩
      rw [← hw4] at O4 B4 ⊢
      clear hw4 y0 hfz
      have hfz := O4.out.frozenGet k
      have y1 : w4.cell? ⟨g, k, none⟩ = some (.int .i64 y) := by rw [O4.out.cellGet (by rw [List.length_set]; exact kl), GY.out]
      have O5 := Lib.hid (O4.out.setAt k (x := y - 2) (by unfold InI64; omega))
      have B5 : Hid (Below w.heap.size w (w4.setCell ⟨g, k, none⟩ (.int .i64 (y - 2)))) := Lib.hid (B4.out.setCell (p := ⟨g, k, none⟩) (by have := B1.out.size; show w.heap.size ≤ g; omega) _)
      go_upto_region 6 with fail
      obtain ⟨w5, hw5⟩ : ∃ w5, w5 = w4.setCell ⟨g, k, none⟩ (.int .i64 (y - 2)) := ⟨_, rfl⟩
      rw [← hw5] at O5 B5 ⊢
      have HS5 : w5.heap.size = w4.heap.size := by rw [hw5]; simp [World.setCell]
      clear hw5 y1 hfz O4
      have hfz := O5.out.frozenGet m
      have y2 : w5.cell? ⟨g, m, none⟩ = some (.int .i64 z) := by rw [O5.out.cellGet (by rw [List.length_set, List.length_set]; exact ml), GZ.out]
      have O6 := Lib.hid (O5.out.setAt m (x := z + 1) (by unfold InI64; omega))
      have B6 : Hid (Below w.heap.size w (w5.setCell ⟨g, m, none⟩ (.int .i64 (z + 1)))) := Lib.hid (B5.out.setCell (p := ⟨g, m, none⟩) (by have := B1.out.size; show w.heap.size ≤ g; omega) _)
      go_wp2_with fail
      go_ret2
      exact ⟨_, rfl, (O6.out.low B1.out.size).wide O6.out.room (Nat.le_refl _), B6.out⟩
    · have R := Lib.hid (show mvB zs s = false by unfold mvB; rw [hsp, decide_eq_true hr, e1, decide_eq_false h2]; rfl)
      rw [show mvL zs s = [] from if_neg (by rw [R.out]; decide), R.out]
      have hbd := (sprB_iff.1 hsp).bd (j + 1) (by omega)
      obtain ⟨q1, c1, rfl, _, _, _, iq⟩ := hv
      obtain ⟨b, off, rfl, hb, hc⟩ := iq.get (i := j + 1) (by omega)
      have HC := Lib.hid (fun w' (h : Below w.heap.size w w') => show w'.cell? ⟨b, off + (j + 1), none⟩ = some (.int .i64 (zs.getD (j + 1) 0)) by rw [h.cell (p := ⟨b, off + (j + 1), none⟩) hb]; exact hc)
      obtain ⟨k, hk⟩ : ∃ k, k = j + 1 := ⟨_, rfl⟩
      rw [← hk] at HC h2 hbd
      have hjs : s = (k : Int) := by omega
      subst hjs
      have k0 : (0 : Int) ≤ (k : Int) := by omega
      have k1 : (k : Int) < (zs.length : Int) := by omega
      have WD : IntKind.i64.wrap ((zs.length : Int) - 2) = (zs.length : Int) - 2 := IntWalk.i64_in _ (by omega)
      obtain ⟨y, hy⟩ : ∃ y, y = zs.getD k 0 := ⟨_, rfl⟩
      rw [← hy] at HC h2 hbd
      have hlt : y < 2 := by omega
      clear iq hc hy hsp hr e1 hj hk h2 hjn
      go_enter Try.func26, Try.ntmps26
      go_wp2_with fail
      refine (SP.out _ (Below.refl _ _)).mono ?_
      rintro e w1 ⟨rfl, b1⟩
      have B1 := Lib.hid b1
      clear b1
      go_wp2_with fail
      refine (FR.out _).mono ?_
      rintro e w2 ⟨rfl, rfl⟩
      have xk := HC.out _ B1.out
      go_wp2_with fail
      go_ret2
      exact newInts_empty B1.out
  · rw [decide_eq_false hr] at FR
    have R := Lib.hid (show mvB zs s = false by unfold mvB; rw [hsp, decide_eq_false hr]; rfl)
    rw [show mvL zs s = [] from if_neg (by rw [R.out]; decide), R.out]
    have WD : IntKind.i64.wrap ((zs.length : Int) - 2) = (zs.length : Int) - 2 := IntWalk.i64_in _ (by omega)
    obtain ⟨q1, c1, rfl, _⟩ := hv
    clear hsp hr
    go_enter Try.func26, Try.ntmps26
    go_wp2_with fail
    refine (SP.out _ (Below.refl _ _)).mono ?_
    rintro e w1 ⟨rfl, b1⟩
    have B1 := Lib.hid b1
    clear b1
    go_wp2_with fail
    refine (FR.out _).mono ?_
    rintro e w2 ⟨rfl, rfl⟩
    go_wp2_with fail
    go_ret2
    exact newInts_empty B1.out
end Go.Proofs.Ytligidmkhbcpmaa
