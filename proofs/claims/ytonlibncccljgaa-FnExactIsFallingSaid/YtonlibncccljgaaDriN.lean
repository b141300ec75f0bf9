/- DriftsOf in the model: the rows. -/
import Derived.Test.YtonlibncccljgaaDriM
namespace Go.Proofs.Ytonlibncccljgaa
open Go.RowKit
set_option linter.unusedVariables false
set_option maxRecDepth 100000 in
set_option maxHeartbeats 8000000 in
theorem l3DriftsS (ps ws zs : List Int) (v u : Value) (w : World) (pr : Proc ps ws zs) (h : TreeV w w.heap.size v ps ws) (hu : IntsV w w.heap.size u zs) :
    Calls Try.prog 71 #[v, u] w (NewQ ps.length (prL (driA ps ws zs) (driB ps ws zs) ps.length) w) := by
  have hn24 := pr.good.n24
  have hn1 := pr.good.n1
  have hlz := pr.len
  have DR := Lib.hid (fun w' (hb : Below w.heap.size w w') (x : Nat) (hx : x < ps.length) => driftS ps ws zs v u x w' pr hx (h.boxed hb) ((hu.below hb).more hb.size))
  have BD := Lib.hid (fun x (hx : x < ps.length) => driAB_bd pr hx)
  obtain ⟨p1, c1, p2, c2, rfl⟩ := h.shape
  obtain ⟨q, d, rfl, _⟩ := hu
  clear h pr
  obtain ⟨i0, hif, hz0, hz1, hz2⟩ := info_parts pairInfo
  have B1 := ((Below.refl w.heap.size w).alloc (Nat.le_refl _) (.cells #[.slice p1 ps.length c1, .slice p2 ws.length c2] 29)).alloc (by simp) (.cells #[] 55)
  have T1 := Lib.hid (TBox.alloc (show TBox (w.alloc (.cells #[.slice p1 ps.length c1, .slice p2 ws.length c2] 29)) w.heap.size (.slice p1 ps.length c1) (.slice p2 ws.length c2) from alloc_heap w _) (.cells #[] 55))
  have O1 := Lib.hid (OwnQ.empty (w.alloc (.cells #[.slice p1 ps.length c1, .slice p2 ws.length c2] 29)) (w.heap.size + 1) (by simp))
  rw [show (w.alloc (.cells #[.slice p1 ps.length c1, .slice p2 ws.length c2] 29)).heap.size = w.heap.size + 1 by simp] at O1
  obtain ⟨x0, x1⟩ := T1.out.cells
  obtain ⟨wa, hwa⟩ : ∃ wa, wa = (w.alloc (.cells #[.slice p1 ps.length c1, .slice p2 ws.length c2] 29)).alloc (.cells #[] 55) := ⟨_, rfl⟩
  rw [← hwa] at B1 T1 O1
  have HBA := Lib.hid B1
  clear B1 x0 x1
  obtain ⟨A, hA⟩ : ∃ A, A = driA ps ws zs := ⟨_, rfl⟩
  obtain ⟨B, hB⟩ : ∃ B, B = driB ps ws zs := ⟨_, rfl⟩
  rw [← hA] at BD DR ⊢
  rw [← hB] at BD DR ⊢
  clear hA hB
  have ZS : Hid (∀ k, prL A B (k + 1) = prL A B k ++ [A k, B k]) := Lib.hid (fun k => rfl)
  have ZL := Lib.hid (fun k => prL_len A B k)
  rw [hlz] at DR ⊢
  clear hlz
  go_enter Try.func71, Try.ntmps71
  go_wp2_with fail
  rw [← hwa]
  clear hwa
  go_loopg [5, 6] ps.length (fun gg o i wr => ∃ k : Nat, k ≤ ps.length ∧ ps.length - k ≤ gg ∧ i = .int .i64 k ∧ Hid (OwnQ wr (w.heap.size + 1) wr.heap.size o k (prL A B k)) ∧ Hid (TBox wr w.heap.size (.slice p1 ps.length c1) (.slice p2 ws.length c2)) ∧ Hid (Below w.heap.size w wr))
  case atStart => exact ⟨0, Nat.zero_le _, by omega, rfl, O1, T1, HBA⟩
  case round =>
    obtain ⟨k, hk, hgg, rfl, HO, HT, HB⟩ := hrel
    clear O1 T1 HBA
    by_cases hlt : k < ps.length
    · have D2 := Lib.hid (DR.out wr HB.out k hlt)
      have bd := BD.out k hlt
      have se := ZS.out k
      obtain ⟨mn, hmn⟩ : ∃ z, z = A k := ⟨_, rfl⟩
      obtain ⟨md, hmd⟩ : ∃ z, z = B k := ⟨_, rfl⟩
      rw [← hmn] at D2 se bd
      rw [← hmd] at D2 se bd
      have SE := Lib.hid se
      have IN : Hid (InI64 mn ∧ InI64 md) := Lib.hid (by unfold InI64; omega)
      obtain ⟨x0, x1⟩ := HT.out.cells
      have i0' : (0 : Int) ≤ (k : Int) := by omega
      have i1' : (k : Int) < (ps.length : Int) := by omega
      obtain ⟨L, hL⟩ : ∃ L, L = prL A B k := ⟨_, rfl⟩
      rw [← hL] at HO SE
      clear hmn hmd hL se bd
      go_wp2_with fail
      refine (D2.out).mono ?_
      rintro e w3 ⟨rfl, b3⟩
      have HB3 := Lib.hid (HB.out.trans (b3.mono HB.out.size))
      have HT3 := Lib.hid (HT.out.below b3 HT.out.lt)
      have HO3 := Lib.hid ((HO.out.below b3).wide b3.size (Nat.le_refl _))
      clear b3 x0 x1 HB HT HO
      have hown := HO3.out.row
      have hsz := HT3.out.lt
      go_wp2_with (at_builtin; refine wpList_append_own_at _ rfl _ _ 26 rfl (w.heap.size + 1) 55 i0 (.agg #[.int .i64 0, .int .i64 0]) 2 16 Try.underlying26 hif hz0 hz1 hz2 rfl (by decide) _ k (L.map (.int .i64)) rfl (hown.alloc _) ⟨w3.heap.size, 0, none⟩ 1 1 [.int .i64 mn, .int .i64 md] rfl rfl (cell_two_new _ _ _ _) (fun u hu => by simp at hu; rcases hu with rfl | rfl <;> rfl) (by unfold maxLen; omega) (by omega) (by simp; omega) ?_; intro v' w4 hown3 hgrow3 hnil3 hloc3)
      have bel3 := Lib.hid ((HB3.out.alloc HB3.out.size _).grown hgrow3 (by simp; omega) (fun q hq => by have := (hown.lt q hq).1; omega))
      have own3 := Lib.hid (HO3.out.app IN.out.1 IN.out.2 hown3)
      have box3 := Lib.hid ((HT3.out.alloc _).grown hgrow3 (fun q hq => (hown.lt q hq).1) (by omega))
      clear hown hown3 hgrow3 hnil3 hloc3 HB3 HT3 HO3
      go_wp2_with fail
      go_roundg (ps.length - (k + 1))
      case rel => exact ⟨k + 1, by omega, by omega, by go_num, Lib.hid (by rw [SE.out]; exact own3.out), box3, bel3⟩
      case measure => omega
    · obtain rfl : k = ps.length := by omega
      have FIN : Hid (∀ o, OwnQ wr (w.heap.size + 1) wr.heap.size o ps.length (prL A B ps.length) → NewQ ps.length (prL A B ps.length) w (.returned o) wr) := Lib.hid (fun o ho => ⟨o, rfl, ho.low (by omega), HB.out⟩)
      go_wp2
      go_ret
      exact FIN.out _ HO.out
set_option maxRecDepth 100000 in
set_option maxHeartbeats 4000000 in
theorem driftsM (ps ws zs : List Int) (v u : Value) (w : World) (hn9 : zs.length ≤ 1048576) (h : TreeV w w.heap.size v ps ws) (hu : IntsV w w.heap.size u zs) :
    Calls Try.prog 14 #[v, u] w (NewQB (driLen ps ws zs) (drisL ps ws zs) (procB ps ws zs) w) := by
  have PB := Lib.hid (fun w' (hb : Below w.heap.size w w') => procS ps ws zs v u w' hn9 (h.boxed hb) ((hu.below hb).more hb.size))
  have MS := Lib.hid (fun (p : Proc ps ws zs) w' (hb : Below w.heap.size w w') => l3DriftsS ps ws zs v u w' p (h.boxed hb) ((hu.below hb).more hb.size))
  obtain ⟨p1, c1, p2, c2, rfl⟩ := h.shape
  obtain ⟨q, d, rfl, _⟩ := hu
  clear h
  have B1 := (Below.refl w.heap.size w).alloc (Nat.le_refl _) (.cells #[.slice p1 ps.length c1, .slice p2 ws.length c2] 29)
  have K0 := alloc_heap w (.cells #[.slice p1 ps.length c1, .slice p2 ws.length c2] 29)
  obtain ⟨wa, hwa⟩ : ∃ wa, wa = w.alloc (.cells #[.slice p1 ps.length c1, .slice p2 ws.length c2] 29) := ⟨_, rfl⟩
  rw [← hwa] at B1 K0
  have T1 := Lib.hid (show TBox wa w.heap.size (.slice p1 ps.length c1) (.slice p2 ws.length c2) from K0)
  have HBA := Lib.hid B1
  clear K0 B1
  obtain ⟨x0, x1⟩ := T1.out.cells
  cases hp : procB ps ws zs
  · rw [hp] at PB
    have ML : Hid (driLen ps ws zs = 0) := Lib.hid (by unfold driLen; rw [hp]; rfl)
    have ME : Hid (drisL ps ws zs = []) := Lib.hid (by unfold drisL; rw [hp]; rfl)
    rw [ML.out, ME.out]
    clear hp MS
    go_enter Try.func14, Try.ntmps14
    go_wp2_with fail
    rw [← hwa]
    clear hwa
    refine (PB.out _ HBA.out).mono ?_
    rintro e w1 ⟨rfl, b1⟩
    have HB1 := Lib.hid (HBA.out.trans (b1.mono HBA.out.size))
    clear b1
    go_wp2_with fail
    go_ret2
    exact newQ_empty HB1.out rfl
  · have MP := Lib.hid (MS.out (procB_iff.1 hp))
    have ML : Hid (driLen ps ws zs = ps.length) := Lib.hid (by unfold driLen; rw [if_pos hp])
    have ME : Hid (drisL ps ws zs = prL (driA ps ws zs) (driB ps ws zs) ps.length) := Lib.hid (by unfold drisL; rw [if_pos hp])
    rw [hp] at PB
    rw [ML.out, ME.out]
    clear hp MS
    go_enter Try.func14, Try.ntmps14
    go_wp2_with fail
    rw [← hwa]
    clear hwa
    refine (PB.out _ HBA.out).mono ?_
    rintro e w1 ⟨rfl, b1⟩
    have HB1 := Lib.hid (HBA.out.trans (b1.mono HBA.out.size))
    clear x0 x1
    obtain ⟨x0, x1⟩ := (T1.out.below b1 T1.out.lt).cells
    clear b1
    go_wp2_with fail
    refine (MP.out _ HB1.out).mono ?_
    rintro e w5 ⟨u5, rfl, o5, b5⟩
    have FIN := Lib.hid (newQ_back HB1.out o5 b5)
    clear o5 b5
    go_wp2_with fail
    go_ret2
    exact FIN.out
end Go.Proofs.Ytonlibncccljgaa
