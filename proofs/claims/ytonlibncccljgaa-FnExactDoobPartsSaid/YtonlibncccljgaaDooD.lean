/- DriN, FracT, FracX, DooM in one text. -/
import Derived.Test.YtonlibncccljgaaDriM
import Derived.Test.YtonlibncccljgaaFracK
import Derived.Test.YtonlibncccljgaaDooC
import Derived.WalkKit
import Derived.ProofKit
import Derived.Outline
import Derived.Below
import Derived.Lib.Hide
import Derived.WalkSmall
import Derived.WalkSpells
import Derived.WalkLawsBesides
import Derived.RegionTactic
import Derived.ChangeAlike
import Derived.StillTailTactics
import Derived.IntWalk
namespace Go.Proofs.Ytonlibncccljgaa
open Go.RowKit
set_option linter.unusedVariables false
set_option maxRecDepth 100000 in
set_option maxHeartbeats 8000000 in
theorem l3DriftsS (ps ws zs : List Int) (v u : Value) (w : World) (pr : Proc ps ws zs) (h : TreeV w w.heap.size v ps ws) (hu : IntsV w w.heap.size u zs) :
    Calls Try.prog 71 #[v, u] w (NewQ ps.length (prL (driA ps ws zs) (driB ps ws zs) ps.length) w) := by
  have hn24 := pr.good.n24
  have hn1 := pr.good.n1
  have hlz := pr.len
  have DR := Lib.hid (fun w' (hb : Below w.heap.size w w') (x : Nat) (hx : x < ps.length) => driftS ps ws zs v u x w' pr hx (h.boxed hb) ((hu.below hb).more hb.size))
  have BD := Lib.hid (fun x (hx : x < ps.length) => driAB_bd pr hx)
  obtain ⟨p1, c1, p2, c2, rfl⟩ := h.shape
  obtain ⟨q, d, rfl, _⟩ := hu
  clear h pr
  obtain ⟨i0, hif, hz0, hz1, hz2⟩ := info_parts pairInfo
  have B1 := ((Below.refl w.heap.size w).alloc (Nat.le_refl _) (.cells #[.slice p1 ps.length c1, .slice p2 ws.length c2] 29)).alloc (by simp) (.cells #[] 55)
  have T1 := Lib.hid (TBox.alloc (show TBox (w.alloc (.cells #[.slice p1 ps.length c1, .slice p2 ws.length c2] 29)) w.heap.size (.slice p1 ps.length c1) (.slice p2 ws.length c2) from alloc_heap w _) (.cells #[] 55))
  have O1 := Lib.hid (OwnQ.empty (w.alloc (.cells #[.slice p1 ps.length c1, .slice p2 ws.length c2] 29)) (w.heap.size + 1) (by simp))
  rw [show (w.alloc (.cells #[.slice p1 ps.length c1, .slice p2 ws.length c2] 29)).heap.size = w.heap.size + 1 by simp] at O1
  obtain ⟨x0, x1⟩ := T1.out.cells
  obtain ⟨wa, hwa⟩ : ∃ wa, wa = (w.alloc (.cells #[.slice p1 ps.length c1, .slice p2 ws.length c2] 29)).alloc (.cells #[] 55) := ⟨_, rfl⟩
  rw [← hwa] at B1 T1 O1
  have HBA := Lib.hid B1
  clear B1 x0 x1
  obtain ⟨A, hA⟩ : ∃ A, A = driA ps ws zs := ⟨_, rfl⟩
  obtain ⟨B, hB⟩ : ∃ B, B = driB ps ws zs := ⟨_, rfl⟩
  rw [← hA] at BD DR ⊢
  rw [← hB] at BD DR ⊢
  clear hA hB
  have ZS : Hid (∀ k, prL A B (k + 1) = prL A B k ++ [A k, B k]) := Lib.hid (fun k => rfl)
  have ZL := Lib.hid (fun k => prL_len A B k)
  rw [hlz] at DR ⊢
  clear hlz
  go_enter Try.func71, Try.ntmps71
  go_wp2_with fail
  rw [← hwa]
  clear hwa
  go_loopg [5, 6] ps.length (fun gg o i wr => ∃ k : Nat, k ≤ ps.length ∧ ps.length - k ≤ gg ∧ i = .int .i64 k ∧ Hid (OwnQ wr (w.heap.size + 1) wr.heap.size o k (prL A B k)) ∧ Hid (TBox wr w.heap.size (.slice p1 ps.length c1) (.slice p2 ws.length c2)) ∧ Hid (Below w.heap.size w wr))
  case atStart => exact ⟨0, Nat.zero_le _, by omega, rfl, O1, T1, HBA⟩
  case round =>
    obtain ⟨k, hk, hgg, rfl, HO, HT, HB⟩ := hrel
    clear O1 T1 HBA
    by_cases hlt : k < ps.length
    · have D2 := Lib.hid (DR.out wr HB.out k hlt)
      have bd := BD.out k hlt
      have se := ZS.out k
      obtain ⟨mn, hmn⟩ : ∃ z, z = A k := ⟨_, rfl⟩
      obtain ⟨md, hmd⟩ : ∃ z, z = B k := ⟨_, rfl⟩
      rw [← hmn] at D2 se bd
      rw [← hmd] at D2 se bd
      have SE := Lib.hid se
      have IN : Hid (InI64 mn ∧ InI64 md) := Lib.hid (by unfold InI64; omega)
      obtain ⟨x0, x1⟩ := HT.out.cells
      have i0' : (0 : Int) ≤ (k : Int) := by omega
      have i1' : (k : Int) < (ps.length : Int) := by omega
      obtain ⟨L, hL⟩ : ∃ L, L = prL A B k := ⟨_, rfl⟩
      rw [← hL] at HO SE
      clear hmn hmd hL se bd
      go_wp2_with fail
      refine (D2.out).mono ?_
      rintro e w3 ⟨rfl, b3⟩
      have HB3 := Lib.hid (HB.out.trans (b3.mono HB.out.size))
      have HT3 := Lib.hid (HT.out.below b3 HT.out.lt)
      have HO3 := Lib.hid ((HO.out.below b3).wide b3.size (Nat.le_refl _))
      clear b3 x0 x1 HB HT HO
      have hown := HO3.out.row
      have hsz := HT3.out.lt
      go_wp2_with (at_builtin; refine wpList_append_own_at _ rfl _ _ 26 rfl (w.heap.size + 1) 55 i0 (.agg #[.int .i64 0, .int .i64 0]) 2 16 Try.underlying26 hif hz0 hz1 hz2 rfl (by decide) _ k (L.map (.int .i64)) rfl (hown.alloc _) ⟨w3.heap.size, 0, none⟩ 1 1 [.int .i64 mn, .int .i64 md] rfl rfl (cell_two_new _ _ _ _) (fun u hu => by simp at hu; rcases hu with rfl | rfl <;> rfl) (by unfold maxLen; omega) (by omega) (by simp; omega) ?_; intro v' w4 hown3 hgrow3 hnil3 hloc3)
      have bel3 := Lib.hid ((HB3.out.alloc HB3.out.size _).grown hgrow3 (by simp; omega) (fun q hq => by have := (hown.lt q hq).1; omega))
      have own3 := Lib.hid (HO3.out.app IN.out.1 IN.out.2 hown3)
      have box3 := Lib.hid ((HT3.out.alloc _).grown hgrow3 (fun q hq => (hown.lt q hq).1) (by omega))
      clear hown hown3 hgrow3 hnil3 hloc3 HB3 HT3 HO3
      go_wp2_with fail
      go_roundg (ps.length - (k + 1))
      case rel => exact ⟨k + 1, by omega, by omega, by go_num, Lib.hid (by rw [SE.out]; exact own3.out), box3, bel3⟩
      case measure => omega
    · obtain rfl : k = ps.length := by omega
      have FIN : Hid (∀ o, OwnQ wr (w.heap.size + 1) wr.heap.size o ps.length (prL A B ps.length) → NewQ ps.length (prL A B ps.length) w (.returned o) wr) := Lib.hid (fun o ho => ⟨o, rfl, ho.low (by omega), HB.out⟩)
      go_wp2
      go_ret
      exact FIN.out _ HO.out
set_option maxRecDepth 100000 in
set_option maxHeartbeats 4000000 in
theorem driftsM (ps ws zs : List Int) (v u : Value) (w : World) (hn9 : zs.length ≤ 1048576) (h : TreeV w w.heap.size v ps ws) (hu : IntsV w w.heap.size u zs) :
    Calls Try.prog 14 #[v, u] w (NewQB (driLen ps ws zs) (drisL ps ws zs) (procB ps ws zs) w) := by
  have PB := Lib.hid (fun w' (hb : Below w.heap.size w w') => procS ps ws zs v u w' hn9 (h.boxed hb) ((hu.below hb).more hb.size))
  have MS := Lib.hid (fun (p : Proc ps ws zs) w' (hb : Below w.heap.size w w') => l3DriftsS ps ws zs v u w' p (h.boxed hb) ((hu.below hb).more hb.size))
  obtain ⟨p1, c1, p2, c2, rfl⟩ := h.shape
  obtain ⟨q, d, rfl, _⟩ := hu
  clear h
  have B1 := (Below.refl w.heap.size w).alloc (Nat.le_refl _) (.cells #[.slice p1 ps.length c1, .slice p2 ws.length c2] 29)
  have K0 := alloc_heap w (.cells #[.slice p1 ps.length c1, .slice p2 ws.length c2] 29)
  obtain ⟨wa, hwa⟩ : ∃ wa, wa = w.alloc (.cells #[.slice p1 ps.length c1, .slice p2 ws.length c2] 29) := ⟨_, rfl⟩
  rw [← hwa] at B1 K0
  have T1 := Lib.hid (show TBox wa w.heap.size (.slice p1 ps.length c1) (.slice p2 ws.length c2) from K0)
  have HBA := Lib.hid B1
  clear K0 B1
  obtain ⟨x0, x1⟩ := T1.out.cells
  cases hp : procB ps ws zs
  · rw [hp] at PB
    have ML : Hid (driLen ps ws zs = 0) := Lib.hid (by unfold driLen; rw [hp]; rfl)
    have ME : Hid (drisL ps ws zs = []) := Lib.hid (by unfold drisL; rw [hp]; rfl)
    rw [ML.out, ME.out]
    clear hp MS
    go_enter Try.func14, Try.ntmps14
    go_wp2_with fail
    rw [← hwa]
    clear hwa
    refine (PB.out _ HBA.out).mono ?_
    rintro e w1 ⟨rfl, b1⟩
    have HB1 := Lib.hid (HBA.out.trans (b1.mono HBA.out.size))
    clear b1
    go_wp2_with fail
    go_ret2
    exact newQ_empty HB1.out rfl
  · have MP := Lib.hid (MS.out (procB_iff.1 hp))
    have ML : Hid (driLen ps ws zs = ps.length) := Lib.hid (by unfold driLen; rw [if_pos hp])
    have ME : Hid (drisL ps ws zs = prL (driA ps ws zs) (driB ps ws zs) ps.length) := Lib.hid (by unfold drisL; rw [if_pos hp])
    rw [hp] at PB
    rw [ML.out, ME.out]
    clear hp MS
    go_enter Try.func14, Try.ntmps14
    go_wp2_with fail
    rw [← hwa]
    clear hwa
    refine (PB.out _ HBA.out).mono ?_
    rintro e w1 ⟨rfl, b1⟩
    have HB1 := Lib.hid (HBA.out.trans (b1.mono HBA.out.size))
    clear x0 x1
    obtain ⟨x0, x1⟩ := (T1.out.below b1 T1.out.lt).cells
    clear b1
    go_wp2_with fail
    refine (MP.out _ HB1.out).mono ?_
    rintro e w5 ⟨u5, rfl, o5, b5⟩
    have FIN := Lib.hid (newQ_back HB1.out o5 b5)
    clear o5 b5
    go_wp2_with fail
    go_ret2
    exact FIN.out
end Go.Proofs.Ytonlibncccljgaa
namespace Go.Proofs.Ytonlibncccljgaa
open Go.RowKit
set_option linter.unusedVariables false
set_option maxRecDepth 100000 in
set_option maxHeartbeats 1000000 in
theorem addS (n d m e : Int) (w : World) (hn : -1000000000 ≤ n ∧ n ≤ 1000000000) (hd : 1 ≤ d ∧ d ≤ 1000000) (hm : -1000000000 ≤ m ∧ m ≤ 1000000000) (he : 1 ≤ e ∧ e ≤ 1000000) :
    Calls Try.prog 79 #[.agg #[.int .i64 n, .int .i64 d], .agg #[.int .i64 m, .int .i64 e]] w (Gives (.agg #[.int .i64 (cutN (n * e + m * d) (d * e)), .int .i64 (cutD (n * e + m * d) (d * e))]) w) := by
  have G := Lib.hid (fun w => gcdS d e w (by omega) (by omega))
  have hs := add_same (n := n) (m := m) (d := d) (e := e) (by omega) (by omega)
  have hg := gI_pos (a := d) (b := e) (by omega)
  have hgl : gI d e ≤ e := Int.le_of_dvd (by omega) (gI_dvd_r d e)
  have t1 : e.tdiv (gI d e) = e / gI d e := Int.tdiv_eq_ediv_of_dvd (gI_dvd_r d e)
  have t2 : d.tdiv (gI d e) = d / gI d e := Int.tdiv_eq_ediv_of_dvd (gI_dvd_l d e)
  have x1 : 0 < e / gI d e := Int.ediv_pos_of_pos_of_dvd (by omega) (by omega) (gI_dvd_r d e)
  have x2 : 0 < d / gI d e := Int.ediv_pos_of_pos_of_dvd (by omega) (by omega) (gI_dvd_l d e)
  have x3 : e / gI d e ≤ e := Int.ediv_le_self _ (by omega)
  have x4 : d / gI d e ≤ d := Int.ediv_le_self _ (by omega)
  generalize gI d e = g at *
  generalize e / g = u at *
  generalize d / g = v at *
  have q1 := mul_bd (x := n) (y := u) 1000000000 1000000 (by omega) (by omega)
  have q2 := mul_bd (x := m) (y := v) 1000000000 1000000 (by omega) (by omega)
  have q3 := mul_bd (x := v) (y := e) 1000000 1000000 (by omega) (by omega)
  have q4 := Int.mul_pos x2 (show 0 < e by omega)
  obtain ⟨q1a, q1b⟩ : -1000000000000000 ≤ n * u ∧ n * u ≤ 1000000000000000 := by omega
  obtain ⟨q2a, q2b⟩ : -1000000000000000 ≤ m * v ∧ m * v ≤ 1000000000000000 := by omega
  obtain ⟨q3a, q3b⟩ : -1000000000000 ≤ v * e ∧ v * e ≤ 1000000000000 := by omega
  have C := Lib.hid (fun w => cutS (n * u + m * v) (v * e) w (by omega) (by omega))
  rw [hs.1, hs.2] at C
  generalize cutN (n * e + m * d) (d * e) = N at *
  generalize cutD (n * e + m * d) (d * e) = D at *
  clear q1 q2 q3 hs
  obtain ⟨n1, n2⟩ := hn
  obtain ⟨d1, d2⟩ := hd
  obtain ⟨m1, m2⟩ := hm
  obtain ⟨e1, e2⟩ := he
  have B := blocks3_below w n d m e
  have hsz := blocks3_size w n d m e
  obtain ⟨a0, a1, z0, z1, c0, c1, f0, f1⟩ := cells3 (Below.refl _ (Blocks3 w n d m e))
  go_enter Try.func79, Try.ntmps79
  go_wp2_with fail
  refine (G.out (Blocks3 w n d m e)).mono ?_
  rintro e w1 ⟨rfl, k, hk⟩
  have K : Hid (Below (Blocks3 w n d m e).heap.size (Blocks3 w n d m e) w1) := Lib.hid (by rw [hk]; exact below_drewN (Below.refl _ _) k)
  clear hk a0 a1 z0 z1 c0 c1 f0 f1
  obtain ⟨a0, a1, z0, z1, _, _, _, _⟩ := cells3 K.out
  go_wp2_with fail
  have r0 : ¬ g = 0 := by omega
  have r1 : IntKind.i64.wrap u = u := IntWalk.i64_in _ (by omega)
  have r2 : IntKind.i64.wrap v = v := IntWalk.i64_in _ (by omega)
  have r3 : IntKind.i64.wrap (n * u) = n * u := IntWalk.i64_in _ (by omega)
  have r4 : IntKind.i64.wrap (m * v) = m * v := IntWalk.i64_in _ (by omega)
  have r5 : IntKind.i64.wrap (n * u + m * v) = n * u + m * v := IntWalk.i64_in _ (by omega)
  have r6 : IntKind.i64.wrap (v * e) = v * e := IntWalk.i64_in _ (by omega)
  refine wp_region_still_tail 22 (by kernel_rfl) (by kernel_rfl) ?_
  simp only [List.take_succ_cons, List.take_zero, List.drop_succ_cons, List.drop_zero]
  repeat still_step
  refine wpStill_nil ?_
  clear r0 r1 r2 r3 r4 r5 r6
  change wpList _ _ _ _ _ w1.drew
  go_wp2_with fail
  refine (C.out w1.drew).mono ?_
  rintro e w2 ⟨rfl, b2⟩
  clear a0 a1 z0 z1
  have K2 := K.out.trans ((show Below w1.heap.size w1 w2 from ⟨b2.os, b2.tape, b2.output, b2.size, b2.block⟩).mono K.out.size)
  obtain ⟨_, _, _, _, c0, c1, f0, f1⟩ := cells3 K2
  have BB := Lib.hid (B.trans (K2.mono B.size))
  clear b2 B K2 K
  go_wp2_with fail
  refine bodyPost_ret (v := .agg #[.int .i64 N, .int .i64 D]) (by simp [results, Try.results79, go_sem, c0, c1]) rfl ⟨rfl, ?_⟩
  exact (BB.out.setCell (p := ⟨w.heap.size + 1 + 1, 0, none⟩) (by simp; omega) _).setCell (p := ⟨w.heap.size + 1 + 1, 1, none⟩) (by simp; omega) _
end Go.Proofs.Ytonlibncccljgaa
namespace Go.Proofs.Ytonlibncccljgaa
open Go.RowKit
set_option linter.unusedVariables false
set_option maxRecDepth 100000 in
set_option maxHeartbeats 1000000 in
theorem addW (n d m e : Int) (w : World) (hn : -1000 ≤ n ∧ n ≤ 1000) (hd : 1 ≤ d ∧ d ≤ 1) (hm : -30000000000000 ≤ m ∧ m ≤ 30000000000000) (he : 1 ≤ e ∧ e ≤ 1000000000) :
    Calls Try.prog 79 #[.agg #[.int .i64 n, .int .i64 d], .agg #[.int .i64 m, .int .i64 e]] w (Gives (.agg #[.int .i64 (cutN (n * e + m * d) (d * e)), .int .i64 (cutD (n * e + m * d) (d * e))]) w) := by
  have G := Lib.hid (fun w => gcdS d e w (by omega) (by omega))
  have hs := add_same (n := n) (m := m) (d := d) (e := e) (by omega) (by omega)
  have hg := gI_pos (a := d) (b := e) (by omega)
  have hgl : gI d e ≤ e := Int.le_of_dvd (by omega) (gI_dvd_r d e)
  have t1 : e.tdiv (gI d e) = e / gI d e := Int.tdiv_eq_ediv_of_dvd (gI_dvd_r d e)
  have t2 : d.tdiv (gI d e) = d / gI d e := Int.tdiv_eq_ediv_of_dvd (gI_dvd_l d e)
  have x1 : 0 < e / gI d e := Int.ediv_pos_of_pos_of_dvd (by omega) (by omega) (gI_dvd_r d e)
  have x2 : 0 < d / gI d e := Int.ediv_pos_of_pos_of_dvd (by omega) (by omega) (gI_dvd_l d e)
  have x3 : e / gI d e ≤ e := Int.ediv_le_self _ (by omega)
  have x4 : d / gI d e ≤ d := Int.ediv_le_self _ (by omega)
  generalize gI d e = g at *
  generalize e / g = u at *
  generalize d / g = v at *
  have q1 := mul_bd (x := n) (y := u) 1000 1000000000 (by omega) (by omega)
  have q2 := mul_bd (x := m) (y := v) 30000000000000 1 (by omega) (by omega)
  have q3 := mul_bd (x := v) (y := e) 1 1000000000 (by omega) (by omega)
  have q4 := Int.mul_pos x2 (show 0 < e by omega)
  obtain ⟨q1a, q1b⟩ : -1000000000000 ≤ n * u ∧ n * u ≤ 1000000000000 := by omega
  obtain ⟨q2a, q2b⟩ : -30000000000000 ≤ m * v ∧ m * v ≤ 30000000000000 := by omega
  obtain ⟨q3a, q3b⟩ : -1000000000 ≤ v * e ∧ v * e ≤ 1000000000 := by omega
  have C := Lib.hid (fun w => cutS (n * u + m * v) (v * e) w (by omega) (by omega))
  rw [hs.1, hs.2] at C
  generalize cutN (n * e + m * d) (d * e) = N at *
  generalize cutD (n * e + m * d) (d * e) = D at *
  clear q1 q2 q3 hs
  obtain ⟨n1, n2⟩ := hn
  obtain ⟨d1, d2⟩ := hd
  obtain ⟨m1, m2⟩ := hm
  obtain ⟨e1, e2⟩ := he
  have B := blocks3_below w n d m e
  have hsz := blocks3_size w n d m e
  obtain ⟨a0, a1, z0, z1, c0, c1, f0, f1⟩ := cells3 (Below.refl _ (Blocks3 w n d m e))
  go_enter Try.func79, Try.ntmps79
  go_wp2_with fail
  refine (G.out (Blocks3 w n d m e)).mono ?_
  rintro e w1 ⟨rfl, k, hk⟩
  have K : Hid (Below (Blocks3 w n d m e).heap.size (Blocks3 w n d m e) w1) := Lib.hid (by rw [hk]; exact below_drewN (Below.refl _ _) k)
  clear hk a0 a1 z0 z1 c0 c1 f0 f1
  obtain ⟨a0, a1, z0, z1, _, _, _, _⟩ := cells3 K.out
  go_wp2_with fail
  have r0 : ¬ g = 0 := by omega
  have r1 : IntKind.i64.wrap u = u := IntWalk.i64_in _ (by omega)
  have r2 : IntKind.i64.wrap v = v := IntWalk.i64_in _ (by omega)
  have r3 : IntKind.i64.wrap (n * u) = n * u := IntWalk.i64_in _ (by omega)
  have r4 : IntKind.i64.wrap (m * v) = m * v := IntWalk.i64_in _ (by omega)
  have r5 : IntKind.i64.wrap (n * u + m * v) = n * u + m * v := IntWalk.i64_in _ (by omega)
  have r6 : IntKind.i64.wrap (v * e) = v * e := IntWalk.i64_in _ (by omega)
  refine wp_region_still_tail 22 (by kernel_rfl) (by kernel_rfl) ?_
  simp only [List.take_succ_cons, List.take_zero, List.drop_succ_cons, List.drop_zero]
  repeat still_step
  refine wpStill_nil ?_
  clear r0 r1 r2 r3 r4 r5 r6
  change wpList _ _ _ _ _ w1.drew
  go_wp2_with fail
  refine (C.out w1.drew).mono ?_
  rintro e w2 ⟨rfl, b2⟩
  clear a0 a1 z0 z1
  have K2 := K.out.trans ((show Below w1.heap.size w1 w2 from ⟨b2.os, b2.tape, b2.output, b2.size, b2.block⟩).mono K.out.size)
  obtain ⟨_, _, _, _, c0, c1, f0, f1⟩ := cells3 K2
  have BB := Lib.hid (B.trans (K2.mono B.size))
  clear b2 B K2 K
  go_wp2_with fail
  refine bodyPost_ret (v := .agg #[.int .i64 N, .int .i64 D]) (by simp [results, Try.results79, go_sem, c0, c1]) rfl ⟨rfl, ?_⟩
  exact (BB.out.setCell (p := ⟨w.heap.size + 1 + 1, 0, none⟩) (by simp; omega) _).setCell (p := ⟨w.heap.size + 1 + 1, 1, none⟩) (by simp; omega) _
end Go.Proofs.Ytonlibncccljgaa
namespace Go.Proofs.Ytonlibncccljgaa
open Go.RowKit
set_option linter.unusedVariables false
/-- Two rows in new memory, and whether there are any. -/
def NewQQM (n : Nat) (fs gs : List Int) (ok : Bool) (w : World) (e : Ending) (w' : World) : Prop := ∃ v1 v2, e = .returned (.tuple #[v1, v2, .bool ok]) ∧ OwnQ w' w.heap.size w'.heap.size v1 n fs ∧ OwnQ w' w.heap.size w'.heap.size v2 n gs ∧ Below w.heap.size w w'
theorem newQQM_empty {w w1 : World} (hb : Below w.heap.size w w1) : NewQQM 0 [] [] false w (.returned (.tuple #[.slice (some ⟨w1.heap.size, 0, none⟩) 0 0, .slice (some ⟨w1.heap.size + 1, 0, none⟩) 0 0, .bool false])) ((w1.alloc (.cells #[] 55)).alloc (.cells #[] 55)) := by
  obtain ⟨a, b, m, h1, h2, h3, h4, h5, h6⟩ := newQQ_empty hb
  exact ⟨a, b, h1, h4.wide h3 (Nat.le_refl _), h5.low h2, h6⟩
theorem OwnQ.grown {w w' : World} {lo hi n : Nat} {v : Value} {fs : List Int} {r : Option Nat} (h : OwnQ w lo hi v n fs) (hg : w.grownBy w' r) (hne : ∀ q, v.ownBlock = some q → r ≠ some q) : OwnQ w' lo hi v n fs := by
  refine ⟨h.len, ?_, h.lt, Nat.le_trans h.room hg.size, h.in64⟩
  refine ⟨h.row.1, ?_⟩
  rcases h.row.2 with hn | ⟨g, cap, cur, h1, hb', hgb, rest⟩
  · exact .inl hn
  · refine .inr ⟨g, cap, cur, h1, hb', ?_, rest⟩
    have hl : v.ownBlock = some g := by rw [h1]; simp [Value.ownBlock]
    rw [hg.block g (Nat.lt_of_lt_of_le (h.lt g hl) h.room) (fun e => hne g hl e.symm)]; exact hgb
/-- The three rows lie in blocks of their own. -/
structure Sep (v1 v2 : Value) (gd : Nat) : Prop where
  a : ∀ q, v1.ownBlock = some q → q ≠ gd
  b : ∀ q, v2.ownBlock = some q → q ≠ gd
  ab : ∀ q r, v1.ownBlock = some q → v2.ownBlock = some r → q ≠ r
/-- What stands between the statements. -/
structure DooMt (w : World) (v1 v2 : Value) (n : Nat) (A B kA kB fA fB : Nat → Int) (gd : Nat) (o1 o2 : Value) (k k' : Nat) (wx : World) : Prop where
  dr : ∀ j, j < n → wx.cell? ⟨gd, j * 2, none⟩ = some (.int .i64 (A j)) ∧ wx.cell? ⟨gd, j * 2 + 1, none⟩ = some (.int .i64 (B j))
  fr : OwnQ wx (w.heap.size + 1) wx.heap.size o1 k (prL fA fB k)
  kn : OwnQ wx (w.heap.size + 1) wx.heap.size o2 k' (prL kA kB k')
  sep : Sep o1 o2 gd
  gds : gd < wx.heap.size
  box : TBox wx w.heap.size v1 v2
  bel : Below w.heap.size w wx
theorem DooMt.next {w a b : World} {v1 v2 : Value} {n : Nat} {A B kA kB fA fB : Nat → Int} {gd : Nat} {o1 o2 : Value} {k k' : Nat} (h : DooMt w v1 v2 n A B kA kB fA fB gd o1 o2 k k' a) (hb : Below a.heap.size a b) : DooMt w v1 v2 n A B kA kB fA fB gd o1 o2 k k' b :=
  ⟨fun j hj => ⟨(hb.cell (p := ⟨gd, j * 2, none⟩) h.gds).trans (h.dr j hj).1, (hb.cell (p := ⟨gd, j * 2 + 1, none⟩) h.gds).trans (h.dr j hj).2⟩, (h.fr.below hb).wide hb.size (Nat.le_refl _), (h.kn.below hb).wide hb.size (Nat.le_refl _), h.sep, Nat.lt_of_lt_of_le h.gds hb.size, h.box.below hb h.box.lt, h.bel.trans (hb.mono h.bel.size)⟩
theorem DooMt.appK {w a b : World} {v1 v2 : Value} {n : Nat} {A B kA kB fA fB : Nat → Int} {gd : Nat} {o1 o2 o3 : Value} {k k' : Nat} (h : DooMt w v1 v2 n A B kA kB fA fB gd o1 o2 k k' a) (hg : a.grownBy b o2.ownBlock) (hx : InI64 (kA k')) (hy : InI64 (kB k'))
    (hown : b.ownsRow (w.heap.size + 1) 55 2 o3 (k' + 1) ((prL kA kB k').map (.int .i64) ++ [.int .i64 (kA k'), .int .i64 (kB k')])) (hloc : o2.ownBlock = o3.ownBlock ∨ o3.ownBlock = some a.heap.size) : DooMt w v1 v2 n A B kA kB fA fB gd o1 o3 k (k' + 1) b := by
  have hk := h.kn.app hx hy hown
  refine ⟨fun j hj => ?_, (h.fr.grown hg (fun q hq e => h.sep.ab q q hq e rfl)).wide hg.size (Nat.le_refl _), hk, ⟨h.sep.a, fun q hq => ?_, fun q r hq hr => ?_⟩, Nat.lt_of_lt_of_le h.gds hg.size, ?_, h.bel.grown hg h.bel.size (fun q hq => ?_)⟩
  · have hne : ∀ q, o2.ownBlock = some q → q ≠ gd := h.sep.b
    exact ⟨(ne_grownP hg h.gds hne (j * 2)).trans (h.dr j hj).1, (ne_grownP hg h.gds hne (j * 2 + 1)).trans (h.dr j hj).2⟩
  · rcases hloc with e | e
    · exact h.sep.b q (e.trans hq)
    · rw [e] at hq; injection hq with hq; have := h.gds; omega
  · rcases hloc with e | e
    · exact h.sep.ab q r hq (e.trans hr)
    · rw [e] at hr; injection hr with hr; have := h.fr.lt q hq; omega
  · exact (hg.block w.heap.size h.box.lt (fun e => by have := (h.kn.row.lt _ e.symm).1; omega)).trans h.box
  · have := (h.kn.row.lt q hq).1; omega
theorem DooMt.appF {w a b : World} {v1 v2 : Value} {n : Nat} {A B kA kB fA fB : Nat → Int} {gd : Nat} {o1 o2 o3 : Value} {k k' : Nat} (h : DooMt w v1 v2 n A B kA kB fA fB gd o1 o2 k k' a) (hg : a.grownBy b o1.ownBlock) (hx : InI64 (fA k)) (hy : InI64 (fB k))
    (hown : b.ownsRow (w.heap.size + 1) 55 2 o3 (k + 1) ((prL fA fB k).map (.int .i64) ++ [.int .i64 (fA k), .int .i64 (fB k)])) (hloc : o1.ownBlock = o3.ownBlock ∨ o3.ownBlock = some a.heap.size) : DooMt w v1 v2 n A B kA kB fA fB gd o3 o2 (k + 1) k' b := by
  have hk := h.fr.app hx hy hown
  refine ⟨fun j hj => ?_, hk, (h.kn.grown hg (fun q hq e => h.sep.ab q q e hq rfl)).wide hg.size (Nat.le_refl _), ⟨fun q hq => ?_, h.sep.b, fun q r hq hr => ?_⟩, Nat.lt_of_lt_of_le h.gds hg.size, ?_, h.bel.grown hg h.bel.size (fun q hq => ?_)⟩
  · have hne : ∀ q, o1.ownBlock = some q → q ≠ gd := h.sep.a
    exact ⟨(ne_grownP hg h.gds hne (j * 2)).trans (h.dr j hj).1, (ne_grownP hg h.gds hne (j * 2 + 1)).trans (h.dr j hj).2⟩
  · rcases hloc with e | e
    · exact h.sep.a q (e.trans hq)
    · rw [e] at hq; injection hq with hq; have := h.gds; omega
  · rcases hloc with e | e
    · exact h.sep.ab q r (e.trans hq) hr
    · rw [e] at hq; injection hq with hq; have := h.kn.lt r hr; omega
  · exact (hg.block w.heap.size h.box.lt (fun e => by have := (h.fr.row.lt _ e.symm).1; omega)).trans h.box
  · have := (h.fr.row.lt q hq).1; omega
theorem RBox.next {w w1 : World} {R : Nat} {a b : Int} (h : RBox w R a b) (hb : Below w.heap.size w w1) : RBox w1 R a b := h.below hb h.lt
theorem RBox.grown {w w' : World} {R : Nat} {a b : Int} {r : Option Nat} (h : RBox w R a b) (hg : w.grownBy w' r) (hne : r ≠ some R) : RBox w' R a b := (hg.block R h.lt (fun e => hne e.symm)).trans h
/-- Two cells of a pair. -/
structure Pr (w : World) (g : Nat) (a b : Int) : Prop where
  lt : g < w.heap.size
  c0 : w.cell? ⟨g, 0, none⟩ = some (.int .i64 a)
  c1 : w.cell? ⟨g, 1, none⟩ = some (.int .i64 b)
theorem RBox.pr {w : World} {g : Nat} {a b : Int} (h : RBox w g a b) : Pr w g a b := ⟨h.lt, h.cells.1, h.cells.2.1⟩
theorem Pr.next {w w1 : World} {g : Nat} {a b : Int} (h : Pr w g a b) (hb : Below w.heap.size w w1) : Pr w1 g a b :=
  ⟨Nat.lt_of_lt_of_le h.lt hb.size, (hb.cell (p := ⟨g, 0, none⟩) h.lt).trans h.c0, (hb.cell (p := ⟨g, 1, none⟩) h.lt).trans h.c1⟩
theorem Pr.grown {w w' : World} {g : Nat} {a b : Int} {r : Option Nat} (h : Pr w g a b) (hg : w.grownBy w' r) (hne : ∀ q, r = some q → q ≠ g) : Pr w' g a b :=
  ⟨Nat.lt_of_lt_of_le h.lt hg.size, (ne_grownP hg h.lt hne 0).trans h.c0, (ne_grownP hg h.lt hne 1).trans h.c1⟩
theorem Pr.alloc {w : World} {g : Nat} {a b : Int} (h : Pr w g a b) (o : Obj) : Pr (w.alloc o) g a b := h.next ((Below.refl _ _).alloc (Nat.le_refl _) o)
theorem dpair_st0 {X : World} {g : Nat} {u a b : Value} (h : X.cell? ⟨g, 0, none⟩ = some u) : ((X.setCell ⟨g, 0, none⟩ a).setCell ⟨g, 1, none⟩ b).cell? ⟨g, 0, none⟩ = some a := by
  rw [World.cell?_setCell_other _ _ _ _ (by simp)]; exact World.cell?_setCell_same X _ _ h
theorem dpair_st1 {X : World} {g : Nat} {u a b : Value} (h : X.cell? ⟨g, 1, none⟩ = some u) : ((X.setCell ⟨g, 0, none⟩ a).setCell ⟨g, 1, none⟩ b).cell? ⟨g, 1, none⟩ = some b := by
  refine World.cell?_setCell_same _ _ _ (u := u) ?_
  rw [World.cell?_setCell_other _ _ _ _ (by simp)]; exact h
theorem dsize_rule {Wc w1 : World} (h : Below Wc.heap.size Wc w1) : ∀ n, n < Wc.heap.size → n < w1.heap.size := fun n hn => Nat.lt_of_lt_of_le hn h.size
theorem dBW_next {W Wc w1 : World} (b1 : Below Wc.heap.size Wc w1) (hA : Below W.heap.size W Wc) : Below W.heap.size W w1 := hA.trans (b1.mono hA.size)
theorem dbelow_al {W w1 : World} (h : Below W.heap.size W w1) (o : Obj) : Below W.heap.size W (w1.alloc o) := h.alloc h.size o
theorem dbelow_st {W w1 : World} {b o : Nat} (h : Below W.heap.size W w1) (hp : W.heap.size ≤ b) (v : Value) : Below W.heap.size W (w1.setCell ⟨b, o, none⟩ v) := h.setCell (p := ⟨b, o, none⟩) hp v
theorem and3b {A B C D : Prop} (h : D → A ∧ B ∧ C) (d : D) : A ∧ B ∧ C ∧ D := ⟨(h d).1, (h d).2.1, (h d).2.2, d⟩
set_option maxRecDepth 100000 in
set_option maxHeartbeats 16000000 in
theorem dooM (ps ws zs : List Int) (v u : Value) (w : World) (hn9 : zs.length ≤ 1048576) (h : TreeV w w.heap.size v ps ws) (hu : IntsV w w.heap.size u zs) :
    Calls Try.prog 29 #[v, u] w (NewQQM (dooN ps ws zs) (dooF ps ws zs) (dooK ps ws zs) (dooB ps ws zs) w) := by
  have PB := Lib.hid (fun w' (hb : Below w.heap.size w w') => procS ps ws zs v u w' hn9 (h.boxed hb) ((hu.below hb).more hb.size))
  have MS := Lib.hid (fun (p : Proc ps ws zs) w' (hb : Below w.heap.size w w') => l3DriftsS ps ws zs v u w' p (h.boxed hb) ((hu.below hb).more hb.size))
  obtain ⟨v1, v2, rfl, ⟨p1, c1, rfl, l1, m1, _, i1⟩, ⟨p2, c2, rfl, l2, m2, _, i2⟩⟩ := h
  have P1 := Lib.hid i1
  clear i1 i2 m1 m2 l1 l2
  obtain ⟨q1, d1, rfl, _, _, _, j1⟩ := hu
  have Q1 := Lib.hid j1
  clear j1
  have B1 := (((Below.refl w.heap.size w).alloc (Nat.le_refl _) (.cells #[.slice p1 ps.length c1, .slice p2 ws.length c2] 29)).alloc (by simp) (.cells #[] 55)).alloc (by simp; omega) (.cells #[] 55)
  have K3 := heap_three w (.cells #[.slice p1 ps.length c1, .slice p2 ws.length c2] 29) (.cells #[] 55) (.cells #[] 55)
  have T0 : TBox (((w.alloc (.cells #[.slice p1 ps.length c1, .slice p2 ws.length c2] 29)).alloc (.cells #[] 55)).alloc (.cells #[] 55)) w.heap.size (.slice p1 ps.length c1) (.slice p2 ws.length c2) := K3.1
  have E1 := OwnQ.empty (w.alloc (.cells #[.slice p1 ps.length c1, .slice p2 ws.length c2] 29)) (w.heap.size + 1) (by simp)
  have E2 := OwnQ.empty ((w.alloc (.cells #[.slice p1 ps.length c1, .slice p2 ws.length c2] 29)).alloc (.cells #[] 55)) (w.heap.size + 1) (by simp)
  have E1' := (E1.below ((Below.refl _ _).alloc (Nat.le_refl _) (.cells #[] 55))).wide (by simp) (Nat.le_refl _)
  rw [show (w.alloc (.cells #[.slice p1 ps.length c1, .slice p2 ws.length c2] 29)).heap.size = w.heap.size + 1 by simp] at E1'
  rw [show ((w.alloc (.cells #[.slice p1 ps.length c1, .slice p2 ws.length c2] 29)).alloc (.cells #[] 55)).heap.size = w.heap.size + 1 + 1 by simp] at E2
  obtain ⟨wa, hwa⟩ : ∃ wa, wa = ((w.alloc (.cells #[.slice p1 ps.length c1, .slice p2 ws.length c2] 29)).alloc (.cells #[] 55)).alloc (.cells #[] 55) := ⟨_, rfl⟩
  rw [← hwa] at B1 T0 E1' E2
  have T1 := Lib.hid T0
  have HBA := Lib.hid B1
  have OA1 := Lib.hid E1'
  have OA2 := Lib.hid E2
  have sza : wa.heap.size = w.heap.size + 3 := by rw [hwa]; simp
  clear B1 T0 E1 E1' E2 K3
  obtain ⟨x0, x1⟩ := T1.out.cells
  cases hp : procB ps ws zs
  · rw [hp] at PB
    have DB := dooB_noP hp
    obtain ⟨e1, e2, e3⟩ := doo_no DB
    have R := Lib.hid (And.intro e1 (And.intro e2 (And.intro e3 DB)))
    clear hp DB e1 e2 e3 MS sza
    go_enter Try.func29, Try.ntmps29
    go_wp2_with fail
    rw [← hwa]
    clear hwa
    refine (PB.out _ HBA.out).mono ?_
    rintro e w1 ⟨rfl, b1⟩
    have FIN : Hid (NewQQM 0 [] [] false w (.returned (.tuple #[.slice (some ⟨w.heap.size + 1, 0, none⟩) 0 0, .slice (some ⟨w.heap.size + 1 + 1, 0, none⟩) 0 0, .bool false])) w1) := Lib.hid ⟨_, _, rfl, ((OA1.out.below b1).wide b1.size (Nat.le_refl _)).low (by omega), ((OA2.out.below b1).wide b1.size (Nat.le_refl _)).low (by omega), HBA.out.trans (b1.mono HBA.out.size)⟩
    clear b1
    go_wp2_with fail
    go_ret3
    rw [R.out.1, R.out.2.1, R.out.2.2.1, R.out.2.2.2]
    exact FIN.out
  · have PR := Lib.hid (procB_iff.1 hp)
    have hn1 := PR.out.good.n1
    have hn24 := PR.out.good.n24
    have hlz1 : zs.length ≤ ps.length := Nat.le_of_eq PR.out.len
    have hlz2 : ps.length ≤ zs.length := Nat.le_of_eq PR.out.len.symm
    have MS2 := Lib.hid (MS.out PR.out)
    rw [hp] at PB
    have hpo := ParOk.of PR.out.good
    have GP := Lib.hid PR.out.good.par
    have ZB := Lib.hid PR.out.bd
    have DBD := Lib.hid (fun x (hx : x < ps.length) => driAB_bd PR.out hx)
    have K0 := Lib.hid (kno_zero (ws := ws) (zs := zs) hn1)
    have KS := Lib.hid (fun (x : Nat) (h0 : 0 < x) (hx : x < ps.length) => kno_step (ws := ws) (zs := zs) hpo h0 hx)
    have KW := Lib.hid (fun (x : Nat) (hx : x < ps.length) h0 => kno_wide PR.out hx h0)
    have BAD := Lib.hid (fun (x : Nat) (hx : x < ps.length) (h : dooOk ps ws zs x = false) => dooB_bad hx h)
    have NO := Lib.hid (fun (h : dooB ps ws zs = false) => doo_no h)
    have YES := Lib.hid (fun (h : dooB ps ws zs = true) => doo_yes h)
    have ALLK := Lib.hid (fun (h : ∀ x, x < ps.length → dooOk ps ws zs x = true) => dooB_all hp h)
    have OKD : Hid (∀ x, dooOk ps ws zs x = (isFr (knoA ps ws zs x) (knoB ps ws zs x) && isFr (faiA ps ws zs x) (faiB ps ws zs x))) := Lib.hid (fun x => rfl)
    have FD : Hid (∀ x, faiA ps ws zs x = addA (zs.getD x 0) 1 (-knoA ps ws zs x) (knoB ps ws zs x) ∧ faiB ps ws zs x = addD (zs.getD x 0) 1 (-knoA ps ws zs x) (knoB ps ws zs x)) := Lib.hid (fun x => ⟨rfl, rfl⟩)
    clear hp hpo MS
    obtain ⟨A, hA⟩ : ∃ A, A = driA ps ws zs := ⟨_, rfl⟩
    obtain ⟨B, hB⟩ : ∃ B, B = driB ps ws zs := ⟨_, rfl⟩
    obtain ⟨kA, hkA⟩ : ∃ A, A = knoA ps ws zs := ⟨_, rfl⟩
    obtain ⟨kB, hkB⟩ : ∃ A, A = knoB ps ws zs := ⟨_, rfl⟩
    obtain ⟨fA, hfA⟩ : ∃ A, A = faiA ps ws zs := ⟨_, rfl⟩
    obtain ⟨fB, hfB⟩ : ∃ A, A = faiB ps ws zs := ⟨_, rfl⟩
    rw [← hA] at MS2 KS DBD
    rw [← hB] at MS2 KS DBD
    rw [← hkA] at K0 KS OKD FD YES KW
    rw [← hkB] at K0 KS OKD FD YES KW
    rw [← hfA] at OKD FD YES
    rw [← hfB] at OKD FD YES
    clear hA hB hkA hkB hfA hfB
    obtain ⟨i0, hif, hz0, hz1, hz2⟩ := info_parts pairInfo
    rw [show zs.length = ps.length by omega]
    rw [show zs.length = ps.length by omega] at PB MS2
    go_enter Try.func29, Try.ntmps29
    go_wp2_with fail
    rw [← hwa]
    clear hwa
    refine (PB.out _ HBA.out).mono ?_
    rintro e w1 ⟨rfl, b1⟩
    have HB1 := Lib.hid (HBA.out.trans (b1.mono HBA.out.size))
    have T2 := Lib.hid (T1.out.below b1 T1.out.lt)
    have OB1 := Lib.hid ((OA1.out.below b1).wide b1.size (Nat.le_refl _))
    have OB2 := Lib.hid ((OA2.out.below b1).wide b1.size (Nat.le_refl _))
    have sz1 : w.heap.size + 3 ≤ w1.heap.size := by have := b1.size; omega
    clear b1 x0 x1 T1 HBA OA1 OA2 PB sza
    obtain ⟨x0, x1⟩ := T2.out.cells
    go_wp2_with fail
    refine (MS2.out _ HB1.out).mono ?_
    rintro e w3 ⟨um, rfl, o3, b3⟩
    obtain ⟨gd, cd, rfl, hgd1, hgd⟩ := o3.shape hn1
    have ST0 : Hid (DooMt w (.slice p1 ps.length c1) (.slice p2 ws.length c2) ps.length A B kA kB fA fB gd (.slice (some ⟨w.heap.size + 1, 0, none⟩) 0 0) (.slice (some ⟨w.heap.size + 1 + 1, 0, none⟩) 0 0) 0 0 w3) := Lib.hid (by
      refine ⟨fun j hj => ?_, (OB1.out.below b3).wide b3.size (Nat.le_refl _), (OB2.out.below b3).wide b3.size (Nat.le_refl _), ⟨fun q hq => ?_, fun q hq => ?_, fun q r hq hr => ?_⟩, hgd, T2.out.below b3 T2.out.lt, HB1.out.trans (b3.mono HB1.out.size)⟩
      · have h0 := o3.cellGet (j := j * 2) (by omega)
        have h1 := o3.cellGet (j := j * 2 + 1) (by omega)
        rw [(prL_at A B hj).1] at h0
        rw [(prL_at A B hj).2] at h1
        exact ⟨h0, h1⟩
      · simp [Value.ownBlock] at hq; omega
      · simp [Value.ownBlock] at hq; omega
      · simp [Value.ownBlock] at hq hr; omega)
    clear b3 o3 x0 x1 T2 HB1 OB1 OB2 MS2 hgd1 hgd sz1
    go_wp2_with fail
    go_loopg [7, 8, 10] ps.length (fun gg o1 o2 i wr => ∃ k : Nat, k ≤ ps.length ∧ ps.length - k ≤ gg ∧ i = .int .i64 k ∧ Hid (DooMt w (.slice p1 ps.length c1) (.slice p2 ws.length c2) ps.length A B kA kB fA fB gd o1 o2 k k wr) ∧ Hid (∀ j, j < k → dooOk ps ws zs j = true))
    case atStart => exact ⟨0, Nat.zero_le _, by omega, rfl, ST0, Lib.hid (fun j hj => by omega)⟩
    case round =>
      obtain ⟨k, hk, hgg, rfl, HS, HU⟩ := hrel
      clear ST0
      by_cases hlt : k < ps.length
      · have NX : Hid (dooOk ps ws zs k = true → ∀ j, j < k + 1 → dooOk ps ws zs j = true) := Lib.hid (fun h j hj => by
          rcases Nat.lt_or_ge j k with h' | h'
          · exact HU.out j h'
          · obtain rfl : j = k := by omega
            exact h)
        have NOK : Hid (∀ (w9 : World) (s : Nat), s = w9.heap.size → Below w.heap.size w w9 → dooOk ps ws zs k = false → NewQQM (dooN ps ws zs) (dooF ps ws zs) (dooK ps ws zs) (dooB ps ws zs) w (.returned (.tuple #[.slice (some ⟨s, 0, none⟩) 0 0, .slice (some ⟨s + 1, 0, none⟩) 0 0, .bool false])) ((w9.alloc (.cells #[] 55)).alloc (.cells #[] 55))) := Lib.hid (fun w9 s hs hb h => by
          subst hs
          have DB := BAD.out k hlt h
          obtain ⟨e1, e2, e3⟩ := NO.out DB
          rw [e1, e2, e3, DB]
          exact newQQM_empty hb)
        obtain ⟨bz, oz, rfl, hbz, hcz⟩ := Q1.out.get (i := k) (by omega)
        have CZ : Hid (∀ wx, Below w.heap.size w wx → wx.cell? ⟨bz, oz + k, none⟩ = some (.int .i64 (zs.getD k 0))) := Lib.hid (fun wx hbb => by rw [hbb.cell (p := ⟨bz, oz + k, none⟩) hbz]; exact hcz)
        have zb := ZB.out k (by omega)
        have ok1 := OKD.out k
        obtain ⟨fd1, fd2⟩ := FD.out k
        have kw := KW.out k hlt (fun h0 => by
          have g := GP.out k h0 hlt
          have := HU.out (ps.getD k 0).toNat (by omega)
          rw [OKD.out, Bool.and_eq_true] at this
          exact this.1)
        have i0' : (0 : Int) ≤ (k : Int) := by omega
        have i1' : (k : Int) < (ps.length : Int) := by omega
        have i2' : (k : Int) < (zs.length : Int) := by omega
        have CF : Hid (∀ w', Calls Try.prog 79 #[.agg #[.int .i64 (zs.getD k 0), .int .i64 1], .agg #[.int .i64 (-kA k), .int .i64 (kB k)]] w' (Gives (.agg #[.int .i64 (fA k), .int .i64 (fB k)]) w')) := Lib.hid (fun w' => by
          rw [fd1, fd2]; exact addW (zs.getD k 0) 1 (-kA k) (kB k) w' (by omega) (by omega) (by omega) (by omega))
        have WN : IntKind.i64.wrap (-kA k) = -kA k := IntWalk.i64_in _ (by omega)
        have KI : Hid (InI64 (kA k) ∧ InI64 (kB k)) := Lib.hid (by unfold InI64; omega)
        have C1 := Lib.hid (fun w' => fracS (kA k) (kB k) w')
        have C2 := Lib.hid (fun w' => fracS (fA k) (fB k) w')
        clear hcz fd1 fd2 zb kw
        obtain ⟨X, hX⟩ : ∃ X, X = wr.heap.size := ⟨_, rfl⟩
        obtain ⟨o1, ho1⟩ : ∃ o, o = u7 := ⟨_, rfl⟩
        obtain ⟨o2, ho2⟩ : ∃ o, o = u8 := ⟨_, rfl⟩
        subst ho1
        subst ho2
        have hX0 : w.heap.size < X := by have := HS.out.box.lt; omega
        have HB2 : Below wr.heap.size wr (wr.alloc (.cells #[.int .i64 0, .int .i64 1] 55)) := (Below.refl _ _).alloc (Nat.le_refl _) _
        have HX : RBox (wr.alloc (.cells #[.int .i64 0, .int .i64 1] 55)) wr.heap.size 0 1 := alloc_heap wr _
        obtain ⟨W2, hW2⟩ : ∃ W2, W2 = wr.alloc (.cells #[.int .i64 0, .int .i64 1] 55) := ⟨_, rfl⟩
        rw [← hW2] at HB2 HX
        rw [← hX] at HX
        have HX2 := Lib.hid HX
        have HB22 := Lib.hid HB2
        have HS9 := Lib.hid (HS.out.next HB2)
        have XO1 : Hid (∀ q, o1.ownBlock = some q → q ≠ X) := Lib.hid (fun q hq => by have := HS.out.fr.lt q hq; omega)
        have XO2 : Hid (∀ q, o2.ownBlock = some q → q ≠ X) := Lib.hid (fun q hq => by have := HS.out.kn.lt q hq; omega)
        have hXs : wr.heap.size ≤ X := by omega
        clear HB2 HX
        go_upto_if 32 with fail
        change Code.wp _ _ _ _ (wr.alloc (.cells #[.int .i64 0, .int .i64 1] 55))
        rw [← hW2, ← hX]
        clear hW2 hX
        go_cut [33] (fun _ wx => Hid (Below wr.heap.size wr wx) ∧ Hid (Pr wx X (kA k) (kB k)))
        case first =>
          by_cases hk0 : k = 0
          · have ka0 : kA k = 0 ∧ kB k = 1 := by rw [hk0]; exact K0.out
            have HX3 : Hid (Pr W2 X (kA k) (kB k)) := Lib.hid (by rw [ka0.1, ka0.2]; exact HX2.out.pr)
            have hkp : ¬ (0 : Int) < (k : Int) := by omega
            clear ka0 HS HU K0 KS hk0 HX2
            go_wp2_with fail
            go_meet
            exact ⟨HB22, HX3⟩
          · obtain ⟨g1, g2⟩ := GP.out k (by omega) hlt
            obtain ⟨j, hj⟩ : ∃ j : Nat, ps.getD k 0 = (j : Int) := ⟨(ps.getD k 0).toNat, by omega⟩
            have hjk : j < k := by omega
            obtain ⟨ks1, ks2⟩ := KS.out k (by omega) hlt
            rw [hj, Int.toNat_natCast] at ks1 ks2
            have okj := HU.out j hjk
            rw [OKD.out j, Bool.and_eq_true] at okj
            have db := DBD.out j (by omega)
            obtain ⟨⟨jb1, jb2, jb3, jb4⟩, _⟩ := (isFr_iff _ _).1 okj.1
            have CK := Lib.hid (fun w' => addS (kA j) (kB j) (A j) (B j) w' (by omega) (by omega) (by omega) (by omega))
            unfold addA at ks1
            unfold addD at ks2
            rw [← ks1, ← ks2] at CK
            have hkp : (0 : Int) < (k : Int) := by omega
            obtain ⟨b, off, rfl, hb, hpc⟩ := P1.out.get (i := k) (by omega)
            obtain ⟨GK, ck, ho, hgk1, hgk2⟩ := HS.out.kn.shape (by omega)
            subst ho
            have HN := HS.out.kn
            obtain ⟨n0, n1⟩ : W2.cell? ⟨GK, j * 2, none⟩ = some (.int .i64 (kA j)) ∧ W2.cell? ⟨GK, j * 2 + 1, none⟩ = some (.int .i64 (kB j)) := by
              have h0 := HS9.out.kn.cellGet (j := j * 2) (by omega)
              have h1 := HS9.out.kn.cellGet (j := j * 2 + 1) (by omega)
              rw [(prL_at kA kB hjk).1] at h0
              rw [(prL_at kA kB hjk).2] at h1
              exact ⟨h0, h1⟩
            obtain ⟨d0, d1⟩ := HS9.out.dr j (by omega)
            obtain ⟨x0, x1⟩ := HS9.out.box.cells
            have pc : W2.cell? ⟨b, off + k, none⟩ = some (.int .i64 (j : Int)) := by rw [← hj, HS9.out.bel.cell (p := ⟨b, off + k, none⟩) hb]; exact hpc
            have s0 := HB22.out.size
            have s1 := HS.out.gds
            have s2 := HS.out.bel.size
            have nb1 : b ≠ X := by omega
            have nb2 : GK ≠ X := by omega
            have nb3 : gd ≠ X := by omega
            have nb4 : w.heap.size ≠ X := by omega
            have j0 : (0 : Int) ≤ (j : Int) := by omega
            have j1 : (j : Int) < (k : Int) := by omega
            have j2 : (j : Int) < (ps.length : Int) := by omega
            have HD : Hid (Below W2.heap.size W2 W2.drew) := Lib.hid (below_drew (Below.refl _ _))
            obtain ⟨aj, haj⟩ : ∃ z, z = kA j := ⟨_, rfl⟩
            obtain ⟨bj, hbj⟩ : ∃ z, z = kB j := ⟨_, rfl⟩
            obtain ⟨dj, hdj⟩ : ∃ z, z = A j := ⟨_, rfl⟩
            obtain ⟨ej, hej⟩ : ∃ z, z = B j := ⟨_, rfl⟩
            rw [← haj] at n0 CK
            rw [← hbj] at n1 CK
            rw [← hdj] at d0 CK
            rw [← hej] at d1 CK
            have KC : Hid (∀ w', Hid (Below W2.heap.size W2 w') → w'.cell? ⟨w.heap.size, 0, none⟩ = some (.slice (some ⟨b, off, none⟩) ps.length c1) ∧ w'.cell? ⟨w.heap.size, 1, none⟩ = some (.slice p2 ws.length c2) ∧ w'.cell? ⟨b, off + k, none⟩ = some (.int .i64 (j : Int)) ∧ w'.cell? ⟨GK, j * 2, none⟩ = some (.int .i64 aj) ∧ w'.cell? ⟨GK, j * 2 + 1, none⟩ = some (.int .i64 bj) ∧ w'.cell? ⟨gd, j * 2, none⟩ = some (.int .i64 dj) ∧ w'.cell? ⟨gd, j * 2 + 1, none⟩ = some (.int .i64 ej)) := Lib.hid (fun w' hb => ⟨(hb.out.cell (p := ⟨w.heap.size, 0, none⟩) (by show w.heap.size < _; omega)).trans x0, (hb.out.cell (p := ⟨w.heap.size, 1, none⟩) (by show w.heap.size < _; omega)).trans x1, (hb.out.cell (p := ⟨b, off + k, none⟩) (by show b < _; omega)).trans pc, (hb.out.cell (p := ⟨GK, j * 2, none⟩) (by show GK < _; omega)).trans n0, (hb.out.cell (p := ⟨GK, j * 2 + 1, none⟩) (by show GK < _; omega)).trans n1, (hb.out.cell (p := ⟨gd, j * 2, none⟩) (by show gd < _; omega)).trans d0, (hb.out.cell (p := ⟨gd, j * 2 + 1, none⟩) (by show gd < _; omega)).trans d1⟩)
            clear haj hbj hdj hej hj g1 g2 ks1 ks2 okj db jb1 jb2 jb3 jb4 x0 x1 pc n0 n1 d0 d1 HN hpc hk0 HS HU K0 KS OKD FD KW NX NOK BAD NO YES ALLK CF CZ HS9 s0 s1 s2
            go_wp2_with fail
            go_region_held3 (fun w' => w'.cell? ⟨w.heap.size, 0, none⟩ = some (.slice (some ⟨b, off, none⟩) ps.length c1) ∧ w'.cell? ⟨w.heap.size, 1, none⟩ = some (.slice p2 ws.length c2) ∧ w'.cell? ⟨b, off + k, none⟩ = some (.int .i64 (j : Int)) ∧ w'.cell? ⟨GK, j * 2, none⟩ = some (.int .i64 aj) ∧ w'.cell? ⟨GK, j * 2 + 1, none⟩ = some (.int .i64 bj) ∧ w'.cell? ⟨gd, j * 2, none⟩ = some (.int .i64 dj) ∧ w'.cell? ⟨gd, j * 2 + 1, none⟩ = some (.int .i64 ej))
              (first | exact KC.out _ HD | exact KC.out _ (by assumption) | exact ⟨(far2q nb4).trans (KC.out _ (by assumption)).1, (far2q nb4).trans (KC.out _ (by assumption)).2.1, (far2q nb1).trans (KC.out _ (by assumption)).2.2.1, (far2q nb2).trans (KC.out _ (by assumption)).2.2.2.1, (far2q nb2).trans (KC.out _ (by assumption)).2.2.2.2.1, (far2q nb3).trans (KC.out _ (by assumption)).2.2.2.2.2.1, (far2q nb3).trans (KC.out _ (by assumption)).2.2.2.2.2.2⟩ | go_keep)
              (first
                | (go_at_call 79; (with_reducible refine (CK.out _).mono ?_); rintro e w8 ⟨rfl, b8⟩; (have HE8 := hb_nextM (wa := W2) (by first | exact HD | assumption) b8); (have HR8 := Lib.hid (HX2.out.below HE8.out HX2.out.lt)); (obtain ⟨t0, t1, f0, f1⟩ := HR8.out.cells); clear b8))
            all_goals
              have FB : Hid (Below wr.heap.size wr ((w8.setCell ⟨X, 0, none⟩ (.int .i64 (kA k))).setCell ⟨X, 1, none⟩ (.int .i64 (kB k)))) := Lib.hid (((HB22.out.trans (HE8.out.mono HB22.out.size)).setCell (p := ⟨X, 0, none⟩) hXs _).setCell (p := ⟨X, 1, none⟩) hXs _)
              have FP : Hid (Pr ((w8.setCell ⟨X, 0, none⟩ (.int .i64 (kA k))).setCell ⟨X, 1, none⟩ (.int .i64 (kB k))) X (kA k) (kB k)) := Lib.hid ⟨by simp; exact HR8.out.lt, dpair_st0 t0, dpair_st1 t1⟩
              clear HE8 HR8 t0 t1 f0 f1 HD KC
              go_wp2_with fail
              go_meet
              exact ⟨FB, FP⟩
        obtain ⟨HBX, HPX⟩ := hcut
        obtain ⟨V, rfl⟩ : ∃ V : World, V = wc := ⟨_, rfl⟩
        have HSV := Lib.hid (HS.out.next HBX.out)
        clear HS HB22 HX2 HS9 K0 KS HBX hXs
        obtain ⟨zk, hzk⟩ : ∃ z, z = zs.getD k 0 := ⟨_, rfl⟩
        obtain ⟨ka, hka⟩ : ∃ z, z = kA k := ⟨_, rfl⟩
        obtain ⟨kb, hkb⟩ : ∃ z, z = kB k := ⟨_, rfl⟩
        obtain ⟨fa, hfa⟩ : ∃ z, z = fA k := ⟨_, rfl⟩
        obtain ⟨fb, hfb⟩ : ∃ z, z = fB k := ⟨_, rfl⟩
        have cz := CZ.out V HSV.out.bel
        rw [← hzk] at cz CF
        rw [← hka] at CF WN KI C1 ok1 HPX
        rw [← hkb] at CF KI C1 ok1 HPX
        rw [← hfa] at CF C2 ok1
        rw [← hfb] at CF C2 ok1
        have QKA := Lib.hid hka
        have QKB := Lib.hid hkb
        have QFA := Lib.hid hfa
        have QFB := Lib.hid hfb
        have OK1 := Lib.hid ok1
        have K : Hid (∀ w1, Below V.heap.size V w1 → w1.cell? ⟨bz, oz + k, none⟩ = some (.int .i64 zk) ∧ w1.cell? ⟨X, 0, none⟩ = some (.int .i64 ka) ∧ w1.cell? ⟨X, 1, none⟩ = some (.int .i64 kb)) := Lib.hid (fun w1 h => ⟨(h.cell (p := ⟨bz, oz + k, none⟩) (Nat.lt_of_lt_of_le hbz HSV.out.bel.size)).trans cz, (h.cell (p := ⟨X, 0, none⟩) HPX.out.lt).trans HPX.out.c0, (h.cell (p := ⟨X, 1, none⟩) HPX.out.lt).trans HPX.out.c1⟩)
        have hXV : X < V.heap.size := HPX.out.lt
        have hbzV : bz < V.heap.size := Nat.lt_of_lt_of_le hbz HSV.out.bel.size
        clear hzk hka hkb hfa hfb ok1 cz CZ
        obtain ⟨y0, y1, y2⟩ := K.out V (Below.refl _ _)
        go_upto_region 11 with fail
        go_cut [12] (fun s12 wx => ∃ Y, s12 = .pointer (some ⟨Y, 0, none⟩) ∧ Hid (V.heap.size ≤ Y) ∧ Hid (Pr wx Y fa fb) ∧ Hid (Below V.heap.size V wx))
        case first =>
          clear NOK NX KW YES NO BAD ALLK OKD FD HU C1 C2 HSV
          go_region_held3 (fun w' => w'.cell? ⟨bz, oz + k, none⟩ = some (.int .i64 zk) ∧ w'.cell? ⟨X, 0, none⟩ = some (.int .i64 ka) ∧ w'.cell? ⟨X, 1, none⟩ = some (.int .i64 kb) ∧ Below V.heap.size V w')
            ((refine and3b (K.out _) ?_; (repeat' (first | assumption | with_reducible refine dbelow_al ?_ _ | with_reducible refine dbelow_st ?_ ?_ _ | with_reducible refine below_drew ?_ | with_reducible exact Below.refl _ _)); all_goals (first | omega | (simp; omega) | simp)))
            (first
              | (go_at_call 79; (with_reducible refine (CF.out _).mono ?_); rintro e w1 ⟨rfl, c1⟩; have hb : Below V.heap.size V w1 := (by (apply dBW_next c1; (repeat' (first | assumption | with_reducible refine dbelow_al ?_ _ | with_reducible refine dbelow_st ?_ ?_ _ | with_reducible refine below_drew ?_ | with_reducible exact Below.refl _ _)); all_goals (first | omega | (simp; omega) | simp))); obtain ⟨hc, hf⟩ := bcell c1; have hz := dsize_rule c1; have hz2 := hb.size; have s1 := c1.size; (try simp at s1); (try (have hv : V.heap.size < w1.heap.size := (by omega)))))
          all_goals
            go_wp2_with fail
            go_meet
            refine ⟨_, rfl, Lib.hid ?_, Lib.hid ⟨?_, ?_, ?_⟩, Lib.hid ?_⟩
            · first | omega | (simp; omega) | simp
            · first | omega | (simp; omega) | simp
            · first | (refine dpair_st0 (u := .int .i64 0) ?_; simp [*]) | simp [*]
            · first | (refine dpair_st1 (u := .int .i64 0) ?_; simp [*]) | simp [*]
            · (repeat' (first | assumption | with_reducible refine dbelow_al ?_ _ | with_reducible refine dbelow_st ?_ ?_ _ | with_reducible refine below_drew ?_ | with_reducible exact Below.refl _ _)); all_goals (first | omega | (simp; omega) | simp)
        obtain ⟨Y, rfl, HY, HPY, HBY⟩ := hcut
        obtain ⟨U, rfl⟩ : ∃ U : World, U = wc := ⟨_, rfl⟩
        have HSU := Lib.hid (HSV.out.next HBY.out)
        have PXU := Lib.hid (HPX.out.next HBY.out)
        have YO2 : Hid (∀ q, o2.ownBlock = some q → q ≠ Y) := Lib.hid (fun q hq => by have := HSV.out.kn.lt q hq; have := HY.out; omega)
        clear HSV HPX HBY HY y0 y1 y2 K CF WN hXV hbzV P1 Q1
        obtain ⟨sa, hsa⟩ : ∃ s, s = isFr ka kb := ⟨_, rfl⟩
        obtain ⟨sb, hsb⟩ : ∃ s, s = isFr fa fb := ⟨_, rfl⟩
        rw [← hsa] at C1 OK1
        rw [← hsb] at C2 OK1
        have SB := Lib.hid hsb
        clear hsa hsb
        obtain ⟨xl, x0, x1⟩ := PXU.out
        obtain ⟨yl, y0, y1⟩ := HPY.out
        go_wp2_with fail
        refine (C1.out _).mono ?_
        rintro e w5 ⟨rfl, b5⟩
        cases sa
        · have OKF : Hid (dooOk ps ws zs k = false) := Lib.hid (by rw [OK1.out]; rfl)
          have FIN := Lib.hid (NOK.out w5 _ rfl (HSU.out.bel.trans (b5.mono HSU.out.bel.size)) OKF.out)
          clear xl x0 x1 yl y0 y1 b5 HSU PXU HPY
          go_wp2_with fail
          go_ret3
          exact FIN.out
        · have HS5 := Lib.hid (HSU.out.next b5)
          have PX5 := Lib.hid (PXU.out.next b5)
          have PY5 := Lib.hid (HPY.out.next b5)
          clear xl x0 x1 yl y0 y1 b5 HSU PXU HPY
          obtain ⟨xl, x0, x1⟩ := PX5.out
          obtain ⟨yl, y0, y1⟩ := PY5.out
          go_wp2_with fail
          refine (C2.out _).mono ?_
          rintro e w6 ⟨rfl, b6⟩
          cases sb
          · have OKF : Hid (dooOk ps ws zs k = false) := Lib.hid (by rw [OK1.out]; rfl)
            have FIN := Lib.hid (NOK.out w6 _ rfl (HS5.out.bel.trans (b6.mono HS5.out.bel.size)) OKF.out)
            clear xl x0 x1 yl y0 y1 b6 HS5 PX5 PY5
            go_wp2_with fail
            go_ret3
            exact FIN.out
          · have OKT : dooOk ps ws zs k = true := by rw [OK1.out]; rfl
            have N2 := Lib.hid (NX.out OKT)
            have HS6 := Lib.hid (HS5.out.next b6)
            have PX6 := Lib.hid (PX5.out.next b6)
            have PY6 := Lib.hid (PY5.out.next b6)
            have KF : Hid (InI64 fa ∧ InI64 fb) := Lib.hid (by
              obtain ⟨⟨q1, q2, q3, q4⟩, _⟩ := (isFr_iff _ _).1 SB.out.symm
              unfold InI64; omega)
            clear xl x0 x1 yl y0 y1 b6 HS5 PX5 PY5 OKT NX NOK OK1 SB C1 C2
            obtain ⟨xl, x0, x1⟩ := PX6.out
            obtain ⟨LK, hLK⟩ : ∃ L, L = prL kA kB k := ⟨_, rfl⟩
            obtain ⟨LF, hLF⟩ : ∃ L, L = prL fA fB k := ⟨_, rfl⟩
            have HLK := Lib.hid hLK
            have HLF := Lib.hid hLF
            have hown : w6.ownsRow (w.heap.size + 1) 55 2 o2 k (LK.map (.int .i64)) := by rw [hLK]; exact HS6.out.kn.row
            have hsz : w.heap.size < w6.heap.size := HS6.out.box.lt
            clear hLK hLF
            go_wp2_with (at_builtin; first
              | (refine wpList_append_own_at _ rfl _ _ 26 rfl (w.heap.size + 1) 55 i0 (.agg #[.int .i64 0, .int .i64 0]) 2 16 Try.underlying26 hif hz0 hz1 hz2 rfl (by decide) _ k (LK.map (.int .i64)) rfl (hown.alloc _) ⟨w6.heap.size, 0, none⟩ 1 1 [.int .i64 ka, .int .i64 kb] rfl rfl (cell_two_new _ _ _ _) (fun u hu => by simp at hu; rcases hu with rfl | rfl <;> rfl) (by unfold maxLen; omega) (by omega) (by simp; omega) ?_
                 intro v7 w7 hown7 hgrow7 hnil7 hloc7
                 have HS7 : Hid (DooMt w (.slice p1 ps.length c1) (.slice p2 ws.length c2) ps.length A B kA kB fA fB gd o1 v7 k (k + 1) w7) := Lib.hid (by
                   refine (HS6.out.next ((Below.refl _ _).alloc (Nat.le_refl _) _)).appK hgrow7 (by rw [← QKA.out]; exact KI.out.1) (by rw [← QKB.out]; exact KI.out.2) ?_ ((show v7.ownBlock = o2.ownBlock ∨ _ from hloc7).imp Eq.symm id)
                   rw [← QKA.out, ← QKB.out, ← HLK.out]; exact hown7)
                 have PY7 := Lib.hid ((PY6.out.alloc _).grown hgrow7 YO2.out)
                 clear hown7 hgrow7 hnil7 hloc7
                 obtain ⟨yl, y0, y1⟩ := PY7.out
                 have hown2 : w7.ownsRow (w.heap.size + 1) 55 2 o1 k (LF.map (.int .i64)) := by rw [HLF.out]; exact HS7.out.fr.row
                 have hsz2 : w.heap.size < w7.heap.size := HS7.out.box.lt)
              | (refine wpList_append_own_at _ rfl _ _ 26 rfl (w.heap.size + 1) 55 i0 (.agg #[.int .i64 0, .int .i64 0]) 2 16 Try.underlying26 hif hz0 hz1 hz2 rfl (by decide) _ k (LF.map (.int .i64)) rfl (hown2.alloc _) ⟨w7.heap.size, 0, none⟩ 1 1 [.int .i64 fa, .int .i64 fb] rfl rfl (cell_two_new _ _ _ _) (fun u hu => by simp at hu; rcases hu with rfl | rfl <;> rfl) (by unfold maxLen; omega) (by omega) (by simp; omega) ?_
                 intro v8 w8 hown8 hgrow8 hnil8 hloc8))
            have HS8 : Hid (DooMt w (.slice p1 ps.length c1) (.slice p2 ws.length c2) ps.length A B kA kB fA fB gd v8 v7 (k + 1) (k + 1) w8) := Lib.hid (by
              refine (HS7.out.next ((Below.refl _ _).alloc (Nat.le_refl _) _)).appF hgrow8 (by rw [← QFA.out]; exact KF.out.1) (by rw [← QFB.out]; exact KF.out.2) ?_ ((show v8.ownBlock = o1.ownBlock ∨ _ from hloc8).imp Eq.symm id)
              rw [← QFA.out, ← QFB.out, ← HLF.out]; exact hown8)
            clear hown hown2 hown8 hgrow8 hnil8 hloc8 HS6 HS7 PX6 PY6 PY7 hsz hsz2 xl x0 x1 yl y0 y1
            go_wp2_with fail
            go_roundg (ps.length - (k + 1))
            case rel => exact ⟨k + 1, by omega, by omega, by go_num, HS8, N2⟩
            case measure => omega
      · obtain rfl : k = ps.length := by omega
        have DB := ALLK.out HU.out
        obtain ⟨e1, e2, e3⟩ := YES.out DB
        have FIN : Hid (∀ x y, DooMt w (.slice p1 ps.length c1) (.slice p2 ws.length c2) ps.length A B kA kB fA fB gd x y ps.length ps.length wr → NewQQM (dooN ps ws zs) (dooF ps ws zs) (dooK ps ws zs) (dooB ps ws zs) w (.returned (.tuple #[x, y, .bool true])) wr) := Lib.hid (fun x y h => by
          rw [e1, e2, e3, DB]
          exact ⟨_, _, rfl, h.fr.low (by omega), h.kn.low (by omega), h.bel⟩)
        clear HU e1 e2 e3 DB
        go_wp2
        go_ret3
        exact FIN.out _ _ HS.out
end Go.Proofs.Ytonlibncccljgaa
