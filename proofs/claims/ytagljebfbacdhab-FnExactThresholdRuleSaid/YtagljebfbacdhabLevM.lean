/- The rule of a level, and ThresholdRule, in the model. -/
import Derived.Test.YtagljebfbacdhabFirM
import Derived.Test.YtagljebfbacdhabPay4
import Derived.Test.YtagljebfbacdhabEntI
namespace Go.Proofs.Ytagljebfbacdhab
open Go.RowKit
set_option linter.unusedVariables false
theorem lev_list {ps : List Int} (hp : ParOk ps) (zs : List Int) (lv : Int) : fstL ps (fun x => leafB ps x || decide (lv ≤ zs.getD x 0)) = entL ps zs lv := by
  rw [ent_fst]
  exact fstL_congr hp (fun x hx => by unfold hitB; rw [Bool.or_comm])
set_option maxRecDepth 100000 in
set_option maxHeartbeats 8000000 in
theorem level4S (ps ws zs : List Int) (lv : Int) (v u : Value) (w : World) (pr : Proc ps ws zs) (h : TreeV w w.heap.size v ps ws) (hu : IntsV w w.heap.size u zs) :
    Calls Try.prog 92 #[v, u, .int .i64 lv] w (NewInts (entL ps zs lv) w) := by
  have FI := Lib.hid (fun w' u1 (hb : Below w.heap.size w w') (hq : BoolsV w' w'.heap.size u1 (fun x => leafB ps x || decide (lv ≤ zs.getD x 0)) ps.length) => first4S ps ws (fun x => leafB ps x || decide (lv ≤ zs.getD x 0)) v u1 w' pr.good (fun x hx hl => by simp [hl]) (h.boxed hb) hq)
  rw [lev_list (ParOk.of pr.good)] at FI
  have gd := pr.good
  have hn24 := gd.n24
  have ZL := Lib.hid pr.len
  have WB := Lib.hid (fun (x : Nat) (hx : x < ps.length) => gd.end_iff hx)
  have WD := Lib.hid (fun (x : Nat) (hx : x < ps.length) => gd.w_bd hx)
  have NW := Lib.hid gd.nw
  obtain ⟨i0, hi, hz0, hz1, hz2⟩ := info_parts boolInfo
  obtain ⟨v1, v2, rfl, ⟨p1, c1, rfl, l1, m1, _, i1⟩, ⟨p2, c2, rfl, l2, m2, _, i2⟩⟩ := h
  have W2 := Lib.hid i2
  obtain ⟨q, d, rfl, _, _, _, j1⟩ := hu
  have Q1 := Lib.hid j1
  clear j1 gd pr i1 i2 m1 m2 l1 l2
  obtain ⟨P, hP⟩ : ∃ P, P = fun x => leafB ps x || decide (lv ≤ zs.getD x 0) := ⟨_, rfl⟩
  have PX : Hid (∀ x, P x = (leafB ps x || decide (lv ≤ zs.getD x 0))) := Lib.hid (fun x => by rw [hP])
  rw [← hP] at FI
  clear hP
  have T0 := TBox.alloc (show TBox (w.alloc (.cells #[.slice p1 ps.length c1, .slice p2 ws.length c2] 28)) w.heap.size (.slice p1 ps.length c1) (.slice p2 ws.length c2) from alloc_heap w _) (.cells #[] 4)
  have B1 := ((Below.refl w.heap.size w).alloc (Nat.le_refl _) (.cells #[.slice p1 ps.length c1, .slice p2 ws.length c2] 28)).alloc (by simp) (.cells #[] 4)
  have O1 := OwnB.empty P (w.alloc (.cells #[.slice p1 ps.length c1, .slice p2 ws.length c2] 28)) (w.heap.size + 1) (by simp)
  have z1 : (w.alloc (.cells #[.slice p1 ps.length c1, .slice p2 ws.length c2] 28)).heap.size = w.heap.size + 1 := by simp
  rw [z1] at O1
  have HT := Lib.hid T0
  have HB := Lib.hid B1
  have HO := Lib.hid O1
  clear T0 B1 O1 z1
  go_enter Try.func92, Try.ntmps92
  go_wp2
  go_loopg [7, 8] ps.length (fun gg o i wr => ∃ k : Nat, k ≤ ps.length ∧ ps.length - k ≤ gg ∧ i = .int .i64 k ∧ Hid (OwnB wr (w.heap.size + 1) wr.heap.size o P k) ∧ Hid (TBox wr w.heap.size (.slice p1 ps.length c1) (.slice p2 ws.length c2)) ∧ Hid (Below w.heap.size w wr))
  case atStart => exact ⟨0, Nat.zero_le _, by omega, rfl, HO, HT, HB⟩
  case round =>
    clear HO HT HB
    obtain ⟨k, hk, hgg, rfl, HO, HT, HB⟩ := hrel
    obtain ⟨x0, x1⟩ := HT.out.cells
    by_cases hlt : k < ps.length
    · obtain ⟨b, off, hq, hb, hc⟩ := W2.out.get (i := k) (by have := NW.out; omega)
      subst hq
      have hcw : wr.cell? ⟨b, off + k, none⟩ = some (.int .i64 (ws.getD k 0)) := by rw [HB.out.cell (p := ⟨b, off + k, none⟩) hb]; exact hc
      obtain ⟨bz, oz, hqz, hbz, hcz⟩ := Q1.out.get (i := k) (by have := ZL.out; omega)
      subst hqz
      have hcy : wr.cell? ⟨bz, oz + k, none⟩ = some (.int .i64 (zs.getD k 0)) := by rw [HB.out.cell (p := ⟨bz, oz + k, none⟩) hbz]; exact hcz
      have wb := WB.out k hlt
      have wd := WD.out k hlt
      have px := PX.out k
      have i0' : (0 : Int) ≤ (k : Int) := by omega
      have i1' : (k : Int) < (ps.length : Int) := by omega
      have i2' : (k : Int) < (ws.length : Int) := by have := NW.out; omega
      have i3' : (k : Int) < (zs.length : Int) := by have := ZL.out; omega
      obtain ⟨wk, hwk⟩ : ∃ wk, wk = ws.getD k 0 := ⟨_, rfl⟩
      obtain ⟨zk, hzk⟩ : ∃ zk, zk = zs.getD k 0 := ⟨_, rfl⟩
      rw [← hwk] at hcw wb wd
      rw [← hzk] at hcy px
      clear hc hcz hwk hzk hb hbz
      have hown := HO.out.row
      have hsz := HT.out.lt
      by_cases h1 : 0 < wk
      · have hpk : P k = true := by rw [px, wb.1 h1]; rfl
        clear px wb
        go_wp2_with (at_builtin; refine wpList_append_own_at _ rfl _ _ 109 rfl (w.heap.size + 1) 4 i0 (.bool false) 1 1 Try.underlying109 hi hz0 hz1 hz2 rfl (by decide) _ k (bolL P k) rfl (hown.alloc _) ⟨wr.heap.size, 0, none⟩ 1 1 [.bool true] rfl rfl (bool_one_new _ _) (fun x hx => by simp at hx; subst hx; rfl) (by unfold maxLen; omega) (by omega) (by simp; omega) ?_; intro v' w3 hown3 hgrow3 hnil3 hloc3)
        have bel3 := Lib.hid ((HB.out.alloc HB.out.size _).grown hgrow3 (by simp; omega) (fun q hq => by have := (hown.lt q hq).1; omega))
        have own3 := Lib.hid (HO.out.app (by rw [hpk]; exact hown3))
        have box3 := Lib.hid ((HT.out.alloc _).grown hgrow3 (fun q hq => (hown.lt q hq).1) (by omega))
        clear hown hown3 hgrow3 hnil3 hloc3
        go_roundg (ps.length - (k + 1))
        case rel => exact ⟨k + 1, by omega, by omega, by go_num, own3, box3, bel3⟩
        case measure => omega
      · by_cases h2 : lv ≤ zk
        · have hpk : P k = true := by rw [px, decide_eq_true h2, Bool.or_true]
          have h3 : zk ≥ lv := h2
          clear px wb
          go_wp2_with (at_builtin; refine wpList_append_own_at _ rfl _ _ 109 rfl (w.heap.size + 1) 4 i0 (.bool false) 1 1 Try.underlying109 hi hz0 hz1 hz2 rfl (by decide) _ k (bolL P k) rfl (hown.alloc _) ⟨wr.heap.size, 0, none⟩ 1 1 [.bool true] rfl rfl (bool_one_new _ _) (fun x hx => by simp at hx; subst hx; rfl) (by unfold maxLen; omega) (by omega) (by simp; omega) ?_; intro v' w3 hown3 hgrow3 hnil3 hloc3)
          have bel3 := Lib.hid ((HB.out.alloc HB.out.size _).grown hgrow3 (by simp; omega) (fun q hq => by have := (hown.lt q hq).1; omega))
          have own3 := Lib.hid (HO.out.app (by rw [hpk]; exact hown3))
          have box3 := Lib.hid ((HT.out.alloc _).grown hgrow3 (fun q hq => (hown.lt q hq).1) (by omega))
          clear hown hown3 hgrow3 hnil3 hloc3
          go_roundg (ps.length - (k + 1))
          case rel => exact ⟨k + 1, by omega, by omega, by go_num, own3, box3, bel3⟩
          case measure => omega
        · have hpk : P k = false := by
            rw [px, decide_eq_false h2, Bool.or_false]
            cases hl : leafB ps k
            · rfl
            · exact absurd (wb.2 hl) h1
          have h3 : ¬ zk ≥ lv := h2
          have h4 : zk < lv := by omega
          clear px wb
          go_wp2_with (at_builtin; refine wpList_append_own_at _ rfl _ _ 109 rfl (w.heap.size + 1) 4 i0 (.bool false) 1 1 Try.underlying109 hi hz0 hz1 hz2 rfl (by decide) _ k (bolL P k) rfl (hown.alloc _) ⟨wr.heap.size, 0, none⟩ 1 1 [.bool false] rfl rfl (bool_one_new _ _) (fun x hx => by simp at hx; subst hx; rfl) (by unfold maxLen; omega) (by omega) (by simp; omega) ?_; intro v' w3 hown3 hgrow3 hnil3 hloc3)
          have bel3 := Lib.hid ((HB.out.alloc HB.out.size _).grown hgrow3 (by simp; omega) (fun q hq => by have := (hown.lt q hq).1; omega))
          have own3 := Lib.hid (HO.out.app (by rw [hpk]; exact hown3))
          have box3 := Lib.hid ((HT.out.alloc _).grown hgrow3 (fun q hq => (hown.lt q hq).1) (by omega))
          clear hown hown3 hgrow3 hnil3 hloc3
          go_roundg (ps.length - (k + 1))
          case rel => exact ⟨k + 1, by omega, by omega, by go_num, own3, box3, bel3⟩
          case measure => omega
    · obtain rfl : k = ps.length := by omega
      have i3' : ¬ (ps.length : Int) < (zs.length : Int) := by have := ZL.out; omega
      obtain ⟨qs, cs, ho, _⟩ := HO.out.boolsV
      subst ho
      have C := Lib.hid (FI.out wr _ HB.out HO.out.boolsV)
      go_wp2_with fail
      refine C.out.mono ?_
      rintro e w3 ⟨u3, rfl, o3, b3⟩
      have FIN : Hid (NewInts (entL ps zs lv) w (.returned u3) w3) := Lib.hid ⟨_, rfl, o3.low HB.out.size, HB.out.trans (b3.mono HB.out.size)⟩
      clear o3 b3
      go_wp2_with fail
      go_ret
      exact FIN.out
set_option maxRecDepth 100000 in
set_option maxHeartbeats 4000000 in
theorem thrM (ps ws zs : List Int) (lv : Int) (v u : Value) (w : World) (hn1 : zs.length ≤ 1048576) (h : TreeV w w.heap.size v ps ws) (hu : IntsV w w.heap.size u zs) :
    Calls Try.prog 25 #[v, u, .int .i64 lv] w (NewIntsB (ifEnt ps ws zs (entL ps zs lv)) (procB ps ws zs) w) := by
  have PC := Lib.hid (fun w' (hb : Below w.heap.size w w') => pays4 ps ws zs v u w' hn1 (h.boxed hb) ((hu.below hb).more hb.size))
  have LV := Lib.hid (fun (pr : Proc ps ws zs) w' (hb : Below w.heap.size w w') => level4S ps ws zs lv v u w' pr (h.boxed hb) ((hu.below hb).more hb.size))
  obtain ⟨p1, c1, p2, c2, rfl⟩ := h.shape
  obtain ⟨q, d, rfl, _⟩ := hu
  clear h
  have B1 := (Below.refl w.heap.size w).alloc (Nat.le_refl _) (.cells #[.slice p1 ps.length c1, .slice p2 ws.length c2] 28)
  have T1 := Lib.hid (show TBox (w.alloc (.cells #[.slice p1 ps.length c1, .slice p2 ws.length c2] 28)) w.heap.size (.slice p1 ps.length c1) (.slice p2 ws.length c2) from alloc_heap w _)
  obtain ⟨x0, x1⟩ := T1.out.cells
  obtain ⟨wa, hwa⟩ : ∃ wa, wa = w.alloc (.cells #[.slice p1 ps.length c1, .slice p2 ws.length c2] 28) := ⟨_, rfl⟩
  rw [← hwa] at B1 T1
  have HBA := Lib.hid B1
  clear B1
  cases hp : procB ps ws zs
  · rw [hp] at PC
    have IS := Lib.hid (show ifEnt ps ws zs (entL ps zs lv) = [] by unfold ifEnt; rw [hp]; rfl)
    rw [IS.out]
    clear hp LV
    go_enter Try.func25, Try.ntmps25
    go_wp2_with fail
    rw [← hwa]
    clear hwa x0 x1
    refine (PC.out _ HBA.out).mono ?_
    rintro e w1 ⟨rfl, b1⟩
    have HB1 := Lib.hid (HBA.out.trans (b1.mono HBA.out.size))
    clear b1
    go_wp2_with fail
    go_ret2
    exact newInts_empty HB1.out
  · rw [hp] at PC
    have IS := Lib.hid (show ifEnt ps ws zs (entL ps zs lv) = entL ps zs lv by unfold ifEnt; rw [hp]; rfl)
    have LV2 := Lib.hid (LV.out (procB_iff.1 hp))
    rw [IS.out]
    clear hp LV
    generalize entL ps zs lv = R at *
    go_enter Try.func25, Try.ntmps25
    go_wp2_with fail
    rw [← hwa]
    clear hwa x0 x1
    refine (PC.out _ HBA.out).mono ?_
    rintro e w1 ⟨rfl, b1⟩
    have HB1 := Lib.hid (HBA.out.trans (b1.mono HBA.out.size))
    obtain ⟨y0, y1⟩ := (T1.out.below b1 T1.out.lt).cells
    clear b1
    go_wp2_with fail
    refine (LV2.out _ HB1.out).mono ?_
    rintro e w2 ⟨u2, rfl, o2, b2⟩
    have FIN := Lib.hid (newInts_back HB1.out o2 b2)
    clear o2 b2
    go_wp2_with fail
    go_ret2
    exact FIN.out
end Go.Proofs.Ytagljebfbacdhab
